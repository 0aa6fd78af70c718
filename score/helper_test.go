package score

import (
	"fmt"
	"math/rand/v2"
	"slices"
	"strconv"
	"strings"
	"testing"

	"benchwarmer/api"
)

// equal tests values; name says what was asked.
func equal[T comparable](t *testing.T, name string, got, want T) {
	t.Helper()
	if got != want {
		t.Errorf("%s: got %v, want %v", name, got, want)
	}
}

// list tests lists; an empty one and nil are the same.
func list[T comparable](t *testing.T, name string, got, want []T) {
	t.Helper()
	if !slices.Equal(got, want) {
		t.Errorf("%s: got %v, want %v", name, got, want)
	}
}

// atoi reads what must be a number.
func atoi(word string) int {
	n, err := strconv.Atoi(word)
	if err != nil {
		panic(err)
	}
	return n
}

// frac makes a fraction of NUM/DEN, or of a whole number; it can be a wrong one.
func frac(word string) api.Fraction {
	num, den, over := strings.Cut(word, "/")
	if !over {
		den = "1"
	}
	return api.Fraction{Num: atoi(num), Den: atoi(den)}
}

// names returns keys with commas between; none for "-".
func names(word string) []string {
	if word == "-" {
		return nil
	}
	return strings.Split(word, ",")
}

// rules makes rules of lines: key, stat, position or -, kind, many, worth.
func rules(lines ...string) []api.Rule {
	kind := map[string]int{"each": api.RuleEach, "step": api.RuleStep, "from": api.RuleFrom, "none": api.RuleNone}
	var r []api.Rule
	for _, line := range lines {
		w := strings.Fields(line)
		r = append(r, api.Rule{Key: w[0], Stat: w[1], Position: strings.TrimPrefix(w[2], "-"), Kind: kind[w[3]], Many: atoi(w[4]), Worth: frac(w[5])})
	}
	return r
}

// did makes lines: player, week, and each statistic with a colon and its count.
func did(lines ...string) []api.Line {
	var l []api.Line
	for _, line := range lines {
		w := strings.Fields(line)
		x := api.Line{Player: w[0], Week: atoi(w[1])}
		for _, stat := range w[2:] {
			name, count, _ := strings.Cut(stat, ":")
			x.Stats = append(x.Stats, api.Stat{Name: name, Count: atoi(count)})
		}
		l = append(l, x)
	}
	return l
}

// slots makes slots of lines: key, positions.
func slots(lines ...string) []api.Slot {
	var s []api.Slot
	for _, line := range lines {
		w := strings.Fields(line)
		s = append(s, api.Slot{Key: w[0], Positions: names(w[1])})
	}
	return s
}

// scorers makes scorers of lines: player, positions, points, and for those who did not play another word.
func scorers(lines ...string) []api.Scorer {
	var l []api.Scorer
	for _, line := range lines {
		w := strings.Fields(line)
		l = append(l, api.Scorer{Player: w[0], Positions: names(w[1]), Points: frac(w[2]), Played: len(w) == 3})
	}
	return l
}

// fills makes fills of a string: a player for each slot, - for nobody.
func fills(s []api.Slot, players string) []api.Fill {
	var f []api.Fill
	for i, player := range strings.Fields(players) {
		f = append(f, api.Fill{Slot: s[i].Key, Player: strings.TrimPrefix(player, "-")})
	}
	return f
}

// manned writes fills in the form that fills reads.
func manned(f []api.Fill) string {
	var all []string
	for _, x := range f {
		all = append(all, max(x.Player, "-"))
	}
	return strings.Join(all, " ")
}

// key makes a key as long as it can be; keys with greater numbers are greater.
func key(n int) string {
	return fmt.Sprintf("%s%05d", strings.Repeat("k", api.MaxName-5), n)
}

func keys(many int) []string {
	var l []string
	for i := range many {
		l = append(l, key(i))
	}
	return l
}

// manyRules makes so many rules, as large as they can be.
func manyRules(many int) []api.Rule {
	var r []api.Rule
	for i := range many {
		r = append(r, api.Rule{Key: key(i), Stat: key(i % api.MaxStats), Position: key(i % api.MaxPositions), Kind: api.RuleStep, Many: api.MaxCount, Worth: frac("-999999/100")})
	}
	return r
}

// manyStats makes so many statistics.
func manyStats(many, count int) []api.Stat {
	var l []api.Stat
	for i := range many {
		l = append(l, api.Stat{Name: key(i), Count: count})
	}
	return l
}

// manySlots makes so many slots for the same positions.
func manySlots(many int) []api.Slot {
	var s []api.Slot
	for i := range many {
		s = append(s, api.Slot{Key: key(i), Positions: keys(api.MaxPositions)})
	}
	return s
}

// manyScorers makes so many scorers for the same positions; each one has a point more than the one before.
func manyScorers(many int) []api.Scorer {
	var l []api.Scorer
	for i := range many {
		l = append(l, api.Scorer{Player: key(i), Positions: keys(api.MaxPositions), Points: api.Fraction{Num: i, Den: 1}, Played: i%2 == 0})
	}
	return l
}

// game is slots with scorers.
type game struct {
	s []api.Slot
	l []api.Scorer
}

// anyGame makes a small one at random, in which equal points and points below 0 are likely.
func anyGame(r *rand.Rand) game {
	some := func() []string {
		var l []string
		for _, position := range []string{"df", "gk", "mf"} {
			if r.IntN(5) < 2 {
				l = append(l, position)
			}
		}
		if len(l) == 0 {
			return []string{"df"}
		}
		return l
	}
	var g game
	for i := range 1 + r.IntN(4) {
		g.s = append(g.s, api.Slot{Key: string(rune('s' - i)), Positions: some()})
	}
	for i := range r.IntN(6) {
		g.l = append(g.l, api.Scorer{Player: string(rune('a' + i)), Positions: some(), Points: frac([]string{"-1/4", "0", "1/2", "1", "1", "2", "5/2"}[r.IntN(7)]), Played: r.IntN(3) > 0})
	}
	return g
}

// all returns all fills that there are, the least list of players first.
func (g game) all() [][]api.Fill {
	ways := [][]api.Fill{nil}
	for _, slot := range g.s {
		var longer [][]api.Fill
		for _, way := range ways {
			longer = append(longer, append(slices.Clone(way), api.Fill{Slot: slot.Key}))
			for _, x := range g.l {
				may := slices.ContainsFunc(x.Positions, func(p string) bool { return slices.Contains(slot.Positions, p) })
				if may && !slices.ContainsFunc(way, func(f api.Fill) bool { return f.Player == x.Player }) {
					longer = append(longer, append(slices.Clone(way), api.Fill{Slot: slot.Key, Player: x.Player}))
				}
			}
		}
		ways = longer
	}
	return ways
}

// quarters returns four times the sum of fills of a game that anyGame made.
func (g game) quarters(f []api.Fill) int {
	sum := 0
	for _, x := range f {
		for _, y := range g.l {
			if y.Player == x.Player {
				sum += y.Points.Num * 4 / y.Points.Den
			}
		}
	}
	return sum
}

// placed returns how many players are in slots.
func placed(f []api.Fill) int {
	many := 0
	for _, x := range f {
		if x.Player != "" {
			many++
		}
	}
	return many
}

func (g game) String() string {
	return fmt.Sprint(g.s, g.l)
}
