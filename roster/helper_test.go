package roster

import (
	"fmt"
	"math/rand/v2"
	"slices"
	"strconv"
	"strings"
	"testing"

	"benchwarmer/api"
)

// equal tests values; name says what was asked.
func equal[T comparable](t *testing.T, name string, got, want T) {
	t.Helper()
	if got != want {
		t.Errorf("%s: got %v, want %v", name, got, want)
	}
}

// list tests lists; an empty one and nil are the same.
func list[T comparable](t *testing.T, name string, got, want []T) {
	t.Helper()
	if !slices.Equal(got, want) {
		t.Errorf("%s: got %v, want %v", name, got, want)
	}
}

// atoi reads what must be a number.
func atoi(word string) int {
	n, err := strconv.Atoi(word)
	if err != nil {
		panic(err)
	}
	return n
}

// each makes an element of the words of each line.
func each[T any](lines []string, of func(w []string) T) []T {
	var l []T
	for _, line := range lines {
		l = append(l, of(strings.Fields(line)))
	}
	return l
}

// kindOf is the kind of a word; 0 for others.
func kindOf(word string) int {
	return map[string]int{"add": api.MoveAdd, "drop": api.MoveDrop, "stash": api.MoveStash, "back": api.MoveBack}[word]
}

// moves makes moves of lines: moment, kind, team, player.
func moves(lines ...string) []api.Move {
	return each(lines, func(w []string) api.Move {
		return api.Move{At: atoi(w[0]), Kind: kindOf(w[1]), Team: w[2], Player: w[3]}
	})
}

// rosters makes rosters of lines: team, players, and behind a stroke the hurt ones.
func rosters(lines ...string) []api.Roster {
	return each(lines, func(w []string) api.Roster {
		x := api.Roster{Team: w[0], Players: w[1:]}
		if stroke := slices.Index(w, "/"); stroke > 0 {
			x.Players, x.Hurt = w[1:stroke], w[stroke+1:]
		}
		return x
	})
}

// shown writes rosters in the form of rosters, with commas between.
func shown(r ...api.Roster) string {
	var all []string
	for _, x := range r {
		words := append([]string{x.Team}, x.Players...)
		if len(x.Hurt) > 0 {
			words = append(append(words, "/"), x.Hurt...)
		}
		all = append(all, strings.Join(words, " "))
	}
	return strings.Join(all, ", ")
}

// purses makes purses of lines: team, what is left.
func purses(lines ...string) []api.Purse {
	return each(lines, func(w []string) api.Purse { return api.Purse{Team: w[0], Left: atoi(w[1])} })
}

// claims makes claims of lines: team, number, bid, player, and for some whom they drop.
func claims(lines ...string) []api.Claim {
	return each(lines, func(w []string) api.Claim {
		x := api.Claim{Team: w[0], No: atoi(w[1]), Bid: atoi(w[2]), Player: w[3]}
		if len(w) > 4 {
			x.Drop = w[4]
		}
		return x
	})
}

// became writes what became of claims: team, number, and the error if it failed.
func became(l []api.Settled) string {
	names := map[api.Errno]string{
		api.OK: "", api.ErrNone: " none", api.ErrConflict: " conflict", api.ErrState: " state", api.ErrRule: " rule", api.ErrFull: " full",
	}
	var all []string
	for _, x := range l {
		name, known := names[x.Why]
		if !known {
			name = " " + strconv.Itoa(int(x.Why))
		}
		all = append(all, x.Team+" "+strconv.Itoa(x.No)+name)
	}
	return strings.Join(all, ", ")
}

// key makes a key as long as it can be; keys with greater numbers are greater.
func key(n int) string {
	return fmt.Sprintf("%s%05d", strings.Repeat("k", api.MaxName-5), n)
}

func keys(many int) []string {
	var l []string
	for i := range many {
		l = append(l, key(i))
	}
	return l
}

// bounds are of two players, a hurt one, so many adds that they do not matter, and a hold of 100.
func bounds() api.Bounds {
	return api.Bounds{Most: 2, Hurt: 1, Adds: 50, Hold: 100}
}

// widest are the greatest bounds.
func widest() api.Bounds {
	return api.Bounds{Most: api.MaxRoster, Hurt: api.MaxRoster, Adds: api.MaxMoves, Hold: api.MaxHold}
}

// manyMoves makes so many moves of an own team each, with the longest keys.
func manyMoves(many, kind int) []api.Move {
	var l []api.Move
	for i := range many {
		l = append(l, api.Move{At: 100_000_000_000, Kind: kind, Team: key(i), Player: key(0)})
	}
	return l
}

// manyRosters makes so many rosters, each with so many players, and as many hurt ones.
func manyRosters(many, wide int) []api.Roster {
	var r []api.Roster
	all := keys(2 * many * wide)
	for i := range many {
		own := all[2*i*wide:][:2*wide]
		r = append(r, api.Roster{Team: key(i), Players: own[:wide], Hurt: own[wide:]})
	}
	return r
}

// anyMoves makes moves at random with which nothing is wrong, but of which many are refused: some of them around a Monday's beginning.
func anyMoves(random *rand.Rand) (api.Bounds, []api.Move) {
	b := api.Bounds{Most: 1 + random.IntN(3), Hurt: random.IntN(3), Adds: random.IntN(8), Hold: random.IntN(30)}
	var l []api.Move
	at := api.WeekLong - random.IntN(60)
	for range random.IntN(60) {
		at += random.IntN(4)
		l = append(l, api.Move{
			At: at, Kind: 1 + random.IntN(4),
			Team: strings.Fields("x y z")[random.IntN(3)], Player: strings.Fields("p q r s t")[random.IntN(5)],
		})
	}
	slices.SortFunc(l, func(x, y api.Move) int { return slices.Compare(placeOf(x), placeOf(y)) })
	return b, slices.Compact(l)
}

// placeOf is by what moves are ordered, with names of one letter.
func placeOf(x api.Move) []int {
	return []int{x.At, int(x.Team[0]), int(x.Player[0]), x.Kind}
}
