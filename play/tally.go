package play

import (
	"cmp"
	"maps"
	"slices"
	"strings"

	"benchwarmer/api"
)

// owner is whose line of which week something is in.
type owner struct {
	player string
	week   int
}

// tally has the counts of each line, by Stat, also those that are 0.
type tally map[owner]map[string]int

// line returns the counts of a line, which is there from now on.
func (t tally) line(player string, week int) map[string]int {
	who := owner{player, week}
	if t[who] == nil {
		t[who] = map[string]int{}
	}
	return t[who]
}

func (t tally) add(player string, week int, stat string, count int) {
	t.line(player, week)[stat] += count
}

// put adds a line, which is there then also without counts.
func (t tally) put(x api.Line) {
	counts := t.line(x.Player, x.Week)
	for _, s := range x.Stats {
		counts[s.Name] += s.Count
	}
}

// lines returns the lines in order, without counts that are 0.
func (t tally) lines() []api.Line {
	var l []api.Line
	for _, who := range slices.SortedFunc(maps.Keys(t), compareOwners) {
		l = append(l, api.Line{Player: who.player, Week: who.week, Stats: stats(t[who])})
	}
	return l
}

func stats(counts map[string]int) []api.Stat {
	var l []api.Stat
	for _, name := range slices.Sorted(maps.Keys(counts)) {
		if counts[name] != 0 {
			l = append(l, api.Stat{Name: name, Count: counts[name]})
		}
	}
	return l
}

// fitting returns lines of sums, or ErrFull if one has too many Stats, or too great ones.
func fitting(l []api.Line) ([]api.Line, api.Errno) {
	for _, x := range l {
		great := slices.ContainsFunc(x.Stats, func(s api.Stat) bool { return !countable(s.Count) })
		if great || tooWide(x) {
			return nil, api.ErrFull
		}
	}
	return l, api.OK
}

// tooWide says whether a line has too many Stats.
func tooWide(x api.Line) bool {
	return len(x.Stats) > api.MaxStats
}

func compareOwners(a, b owner) int {
	return cmp.Or(strings.Compare(a.player, b.player), cmp.Compare(a.week, b.week))
}
