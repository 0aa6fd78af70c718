package play

import (
	"cmp"
	"slices"
	"strings"

	"benchwarmer/api"
	"benchwarmer/check"
	"benchwarmer/rising"
)

// maxVersion is the greatest Version of a mend.
const maxVersion = 1_000

// CheckMends says what is wrong with mends.
func CheckMends(m []api.Mend) api.Errno {
	return check.Each(len(m), api.MaxMends, func(i int) api.Errno {
		x := m[i]
		return cmp.Or(
			check.Unless(check.Key(x.Player) && check.Key(x.Stat) && check.Key(x.By), api.ErrName),
			check.Unless(check.Week(x.Week) && countable(x.Count) && check.Moment(x.At) && check.Between(x.Version, 1, maxVersion), api.ErrArg),
			check.Unless(i == 0 || compareMends(m[i-1], x) < 0, api.ErrOrder))
	})
}

// MergeMends returns the mends of both lists.
func MergeMends(a, b []api.Mend) ([]api.Mend, api.Errno) {
	if e := cmp.Or(CheckMends(a), CheckMends(b)); e != api.OK {
		return nil, e
	}
	all, agree := rising.Merge(a, b, compareMends)
	if !agree {
		return nil, api.ErrConflict
	}
	if len(all) > api.MaxMends {
		return nil, api.ErrLarge
	}
	return all, api.OK
}

// Mended returns lines with what is put right.
func Mended(l []api.Line, m []api.Mend, at int) ([]api.Line, api.Errno) {
	e := cmp.Or(
		CheckLines(l),
		CheckMends(m),
		check.Unless(check.Moment(at), api.ErrArg))
	if e != api.OK {
		return nil, e
	}
	counts := tally{}
	for _, x := range l {
		counts.put(x)
	}
	// Versions rise, so that the greatest one comes last.
	for _, x := range m {
		if x.At <= at {
			counts.line(x.Player, x.Week)[x.Stat] = x.Count
		}
	}
	mended := counts.lines()
	if len(mended) > maxLines || slices.ContainsFunc(mended, tooWide) {
		return nil, api.ErrLarge
	}
	return mended, api.OK
}

// Since returns what is another count of a week at a moment than it was at another one.
func Since(l []api.Play, trust []string, m []api.Mend, week, from, to int) ([]api.Turned, api.Errno) {
	e := cmp.Or(
		CheckPlays(l),
		CheckTrust(trust),
		CheckMends(m),
		check.Unless(check.Week(week) && check.Moment(from) && check.Moment(to) && from <= to, api.ErrArg))
	if e != api.OK {
		return nil, e
	}
	was, e := mendedLines(l, trust, m, week, from)
	if e != api.OK {
		return nil, e
	}
	now, e := mendedLines(l, trust, m, week, to)
	if e != api.OK {
		return nil, e
	}
	return differ(was, now), api.OK
}

// mendedLines returns the lines of a week, with the mends of this week alone.
func mendedLines(l []api.Play, trust []string, m []api.Mend, week, at int) ([]api.Line, api.Errno) {
	told, e := Lines(l, trust, week, at)
	if e != api.OK {
		return nil, e
	}
	own := slices.DeleteFunc(slices.Clone(m), func(x api.Mend) bool { return x.Week != week })
	return Mended(told, own, at)
}

func compareMends(a, b api.Mend) int {
	return cmp.Or(
		strings.Compare(a.Player, b.Player),
		cmp.Compare(a.Week, b.Week),
		strings.Compare(a.Stat, b.Stat),
		cmp.Compare(a.Version, b.Version))
}
