package play

import (
	"cmp"
	"maps"
	"slices"

	"benchwarmer/api"
	"benchwarmer/check"
)

// CheckTrust says what is wrong with an order of trust.
func CheckTrust(trust []string) api.Errno {
	return check.Different(trust, api.MaxSources)
}

// Told returns the matches with the source that counts.
func Told(l []api.Play, trust []string, at int) ([]api.Pair, api.Errno) {
	e := cmp.Or(
		CheckPlays(l),
		CheckTrust(trust),
		check.Unless(check.Moment(at), api.ErrArg))
	if e != api.OK {
		return nil, e
	}
	counts := counting(upTo(l, at), trust)
	var told []api.Pair
	for _, match := range slices.Sorted(maps.Keys(counts)) {
		told = append(told, api.Pair{Name: match, Value: counts[match]})
	}
	return told, api.OK
}

// Lines returns the lines of a week at a moment.
func Lines(l []api.Play, trust []string, week, at int) ([]api.Line, api.Errno) {
	e := cmp.Or(
		CheckPlays(l),
		CheckTrust(trust),
		check.Unless(check.Week(week) && check.Moment(at), api.ErrArg))
	if e != api.OK {
		return nil, e
	}
	seen := upTo(l, at)
	counts := counting(seen, trust)
	sums := tally{}
	for _, x := range standing(seen) {
		if x.Week == week && counts[x.Match] == x.Source {
			sums.add(x.Player, week, x.Stat, x.Count)
		}
	}
	return fitting(sums.lines())
}

// Disagree compares the sources of a match.
func Disagree(l []api.Play, match string, at int) ([]api.Apart, api.Errno) {
	e := cmp.Or(
		CheckPlays(l),
		check.Unless(check.Key(match), api.ErrName),
		check.Unless(check.Moment(at), api.ErrArg))
	if e != api.OK {
		return nil, e
	}
	seen := those(upTo(l, at), func(x api.Play) bool { return x.Match == match })
	sources, told := bySource(seen)
	var apart []api.Apart
	for i, first := range sources {
		for _, second := range sources[i+1:] {
			for _, x := range differ(told[first], told[second]) {
				apart = append(apart, api.Apart{Match: match, Player: x.Player, Stat: x.Stat, First: first, Second: second, One: x.Was, Two: x.Now})
			}
		}
	}
	return apart, api.OK
}

// upTo returns the plays that are looked at at a moment.
func upTo(l []api.Play, at int) []api.Play {
	return those(l, func(x api.Play) bool { return x.At <= at })
}

// counting returns the source that counts of each match that has one.
func counting(l []api.Play, trust []string) map[string]string {
	counts := map[string]string{}
	for _, source := range slices.Backward(trust) {
		for _, x := range l {
			if x.Source == source {
				counts[x.Match] = source
			}
		}
	}
	return counts
}

// bySource returns the sources that have told of a match, by name, and the lines that each one's plays make.
func bySource(l []api.Play) ([]string, map[string][]api.Line) {
	sums := map[string]tally{}
	for _, x := range l {
		sums[x.Source] = tally{}
	}
	for _, x := range standing(l) {
		sums[x.Source].add(x.Player, x.Week, x.Stat, x.Count)
	}
	told := map[string][]api.Line{}
	for source, t := range sums {
		told[source] = t.lines()
	}
	return slices.Sorted(maps.Keys(sums)), told
}
