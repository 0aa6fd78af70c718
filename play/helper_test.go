package play

import (
	"fmt"
	"slices"
	"strconv"
	"strings"
	"testing"

	"benchwarmer/api"
)

// equal tests values; name says what was asked.
func equal[T comparable](t *testing.T, name string, got, want T) {
	t.Helper()
	if got != want {
		t.Errorf("%s: got %v, want %v", name, got, want)
	}
}

// list tests lists; an empty one and nil are the same.
func list[T comparable](t *testing.T, name string, got, want []T) {
	t.Helper()
	if !slices.Equal(got, want) {
		t.Errorf("%s: got %v, want %v", name, got, want)
	}
}

// atoi reads what must be a number.
func atoi(word string) int {
	n, err := strconv.Atoi(word)
	if err != nil {
		panic(err)
	}
	return n
}

// plays makes plays of lines: source, number, moment, week, match, player, statistic, count, and for some the number that is taken back.
func plays(lines ...string) []api.Play {
	var l []api.Play
	for _, line := range lines {
		w := strings.Fields(line)
		x := api.Play{Source: w[0], No: atoi(w[1]), At: atoi(w[2]), Week: atoi(w[3]), Match: w[4], Player: w[5], Stat: w[6], Count: atoi(w[7])}
		if len(w) > 8 {
			x.Undo = atoi(w[8])
		}
		l = append(l, x)
	}
	return l
}

// mends makes mends of lines: player, week, statistic, count, moment, version, by whom.
func mends(lines ...string) []api.Mend {
	var m []api.Mend
	for _, line := range lines {
		w := strings.Fields(line)
		m = append(m, api.Mend{Player: w[0], Week: atoi(w[1]), Stat: w[2], Count: atoi(w[3]), At: atoi(w[4]), Version: atoi(w[5]), By: w[6]})
	}
	return m
}

// told makes lines: player, week, and each statistic with a colon and its count.
func told(lines ...string) []api.Line {
	var l []api.Line
	for _, line := range lines {
		w := strings.Fields(line)
		x := api.Line{Player: w[0], Week: atoi(w[1])}
		for _, stat := range w[2:] {
			name, count, _ := strings.Cut(stat, ":")
			x.Stats = append(x.Stats, api.Stat{Name: name, Count: atoi(count)})
		}
		l = append(l, x)
	}
	return l
}

// shown writes lines in the form of told, with commas between.
func shown(l []api.Line) string {
	var all []string
	for _, x := range l {
		line := x.Player + " " + strconv.Itoa(x.Week)
		for _, s := range x.Stats {
			line += " " + s.Name + ":" + strconv.Itoa(s.Count)
		}
		all = append(all, line)
	}
	return strings.Join(all, ", ")
}

// turns writes counts that differ.
func turns(l []api.Turned) string {
	var all []string
	for _, x := range l {
		all = append(all, fmt.Sprintf("%s %d %s:%d>%d", x.Player, x.Week, x.Stat, x.Was, x.Now))
	}
	return strings.Join(all, ", ")
}

// key makes a key as long as it can be; keys with greater numbers are greater.
func key(n int) string {
	return fmt.Sprintf("%s%05d", strings.Repeat("k", api.MaxName-5), n)
}

// manyPlays makes so many plays, MaxPlays for each source, each with a match and a player of its own up to 400.
func manyPlays(many int) []api.Play {
	var l []api.Play
	for i := range many {
		match := i % api.MaxMatches
		l = append(l, api.Play{Source: key(i / api.MaxPlays), No: 1 + i%api.MaxPlays, Week: 1 + match%api.MaxWeeks, Match: key(match), Player: key(match), Stat: "goal", Count: 1})
	}
	return l
}

// manyMends makes so many mends.
func manyMends(many int) []api.Mend {
	var m []api.Mend
	for i := range many {
		m = append(m, api.Mend{Player: key(i), Week: 1, Stat: "goal", Count: 1, Version: 1, By: "boss"})
	}
	return m
}

// manyLines makes so many lines with so many statistics, all weeks of a player one after the other.
func manyLines(many, wide int) []api.Line {
	var l []api.Line
	for i := range many {
		l = append(l, api.Line{Player: key(i / api.MaxWeeks), Week: 1 + i%api.MaxWeeks, Stats: manyStats(wide)})
	}
	return l
}

func manyStats(many int) []api.Stat {
	var l []api.Stat
	for i := range many {
		l = append(l, api.Stat{Name: key(i), Count: 1})
	}
	return l
}
