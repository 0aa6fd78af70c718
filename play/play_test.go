package play

import (
	"math"
	"slices"
	"strings"
	"testing"

	"benchwarmer/api"
)

// P2.1: CheckPlays, the errors of one play.
func TestCheckPlay(t *testing.T) {
	right := api.Play{Source: "fa", No: 5, At: 10, Week: 1, Match: "ma", Player: "ann", Stat: "goal", Count: 1}
	long := strings.Repeat("k", api.MaxName)
	for _, x := range []struct {
		name  string
		spoil func(x *api.Play)
		want  api.Errno
	}{
		{"ordinary", func(x *api.Play) {}, api.OK},
		{"least", func(x *api.Play) { x.No, x.At, x.Week, x.Count = 1, 0, 1, -api.MaxCount }, api.OK},
		{"greatest", func(x *api.Play) { x.No, x.At, x.Week, x.Count = api.MaxPlays, api.End-1, api.MaxWeeks, api.MaxCount }, api.OK},
		{"long keys", func(x *api.Play) { x.Source, x.Match, x.Player, x.Stat = long, long, long, long }, api.OK},
		{"count 0", func(x *api.Play) { x.Count = 0 }, api.OK},
		{"takes back the first", func(x *api.Play) { x.Count, x.Undo = 0, 1 }, api.OK},
		{"takes back the one before", func(x *api.Play) { x.Count, x.Undo = 0, 4 }, api.OK},
		{"no source", func(x *api.Play) { x.Source, x.No = "", 0 }, api.ErrName},
		{"source no key", func(x *api.Play) { x.Source, x.No = "Fa", 0 }, api.ErrName},
		{"source too long", func(x *api.Play) { x.Source = long + "k" }, api.ErrName},
		{"number 0", func(x *api.Play) { x.No, x.Match = 0, "" }, api.ErrArg},
		{"number too great", func(x *api.Play) { x.No, x.Match = api.MaxPlays+1, "" }, api.ErrArg},
		{"least number", func(x *api.Play) { x.No = math.MinInt }, api.ErrArg},
		{"before the first moment", func(x *api.Play) { x.At, x.Match = -1, "" }, api.ErrArg},
		{"after the last moment", func(x *api.Play) { x.At, x.Match = api.End, "" }, api.ErrArg},
		{"week 0", func(x *api.Play) { x.Week, x.Match = 0, "" }, api.ErrArg},
		{"week 61", func(x *api.Play) { x.Week, x.Match = 61, "" }, api.ErrArg},
		{"match no key", func(x *api.Play) { x.Match, x.Count = "M", math.MaxInt }, api.ErrName},
		{"player no key", func(x *api.Play) { x.Player, x.Count = "", math.MaxInt }, api.ErrName},
		{"stat no key", func(x *api.Play) { x.Stat, x.Count = "a b", math.MaxInt }, api.ErrName},
		{"count too great", func(x *api.Play) { x.Count, x.Undo = api.MaxCount+1, 1 }, api.ErrArg},
		{"count too small", func(x *api.Play) { x.Count, x.Undo = -api.MaxCount-1, 1 }, api.ErrArg},
		{"least count", func(x *api.Play) { x.Count = math.MinInt }, api.ErrArg},
		{"undo below 0", func(x *api.Play) { x.Undo = -1 }, api.ErrArg},
		{"undoes itself", func(x *api.Play) { x.Undo = 5 }, api.ErrArg},
		{"undoes a later one", func(x *api.Play) { x.Count, x.Undo = 0, 6 }, api.ErrArg},
		{"the first takes back", func(x *api.Play) { x.No, x.Count, x.Undo = 1, 0, 1 }, api.ErrArg},
		{"takes back, and counts", func(x *api.Play) { x.Undo = 4 }, api.ErrForm},
		{"takes back, and counts less", func(x *api.Play) { x.Count, x.Undo = -1, 4 }, api.ErrForm},
	} {
		one := right
		x.spoil(&one)
		equal(t, x.name, CheckPlays([]api.Play{one}), x.want)
		// Order is asked for behind the errors of a well formed one.
		want := x.want
		if want == api.OK {
			want = api.ErrOrder
		}
		equal(t, x.name+", out of order", CheckPlays([]api.Play{{Source: "z", No: 1, Week: 1, Match: "ma", Player: "ann", Stat: "goal"}, one}), want)
	}
}

// P2.1: CheckPlays, the errors of several plays.
func TestCheckPlays(t *testing.T) {
	for _, x := range []struct {
		name string
		l    []api.Play
		want api.Errno
	}{
		{"none", nil, api.OK},
		{"ordinary", plays("fa 1 9 1 ma ann goal 1", "fa 2 3 1 ma ann goal 1", "fb 1 9 2 mb ann goal 1"), api.OK},
		{"numbers missing", plays("fa 3 9 1 ma ann goal 1", "fa 30 3 1 ma ann goal 0 2"), api.OK},
		{"by bytes", plays("f- 1 9 1 ma ann goal 1", "f0 1 9 1 ma ann goal 1", "f_ 1 9 1 ma ann goal 1", "fa 1 9 1 ma ann goal 1"), api.OK},
		{"twice", plays("fa 1 9 1 ma ann goal 1", "fa 1 9 1 ma ann goal 1"), api.ErrOrder},
		{"numbers fall", plays("fa 2 1 1 ma ann goal 1", "fa 1 2 1 ma ann goal 1"), api.ErrOrder},
		{"sources fall", plays("fb 1 1 1 ma ann goal 1", "fa 2 2 1 ma ann goal 1"), api.ErrOrder},
		{"numbers by digits", plays("fa 10 1 1 ma ann goal 1", "fa 9 2 1 ma ann goal 1"), api.ErrOrder},
		{"first one first", plays("fb 1 1 1 ma ann goal 1", "fa 2 2 1 ma ann goal 1", "FA 2 2 1 ma ann goal 1"), api.ErrOrder},
		{"first one's other error", plays("fb 1 1 0 ma ann goal 1", "FA 2 2 1 ma ann goal 1"), api.ErrArg},
		{"two weeks", plays("fa 1 9 1 ma ann goal 1", "fa 2 9 1 mb ann goal 1", "fb 1 9 2 ma ann goal 1"), api.ErrConflict},
		{"two weeks, and order", plays("fa 1 9 1 ma ann goal 1", "fa 2 9 2 ma ann goal 1", "fa 2 9 2 ma ann goal 1"), api.ErrOrder},
		{"most", manyPlays(api.MaxPlays), api.OK},
		{"too many", manyPlays(api.MaxPlays + 1), api.ErrLarge},
		{"too many, and wrong", make([]api.Play, api.MaxPlays+1), api.ErrLarge},
		{"most sources", sources(api.MaxSources), api.OK},
		{"too many sources", sources(api.MaxSources + 1), api.ErrLarge},
		{"most matches", matches(api.MaxMatches), api.OK},
		{"too many matches", matches(api.MaxMatches + 1), api.ErrLarge},
		{"too many sources, and two weeks", append(sources(api.MaxSources+1), plays("z 1 1 2 ma ann goal 1")...), api.ErrLarge},
		{"too many matches, and two weeks", append(matches(api.MaxMatches+1), plays("z 1 1 2 "+key(0)+" ann goal 1")...), api.ErrLarge},
		{"too many sources, and order", append(sources(api.MaxSources+1), plays("a 1 1 1 ma ann goal 1")...), api.ErrOrder},
	} {
		equal(t, x.name, CheckPlays(x.l), x.want)
	}
}

// sources makes plays of so many sources.
func sources(many int) []api.Play {
	var l []api.Play
	for i := range many {
		l = append(l, api.Play{Source: key(i), No: 1, Week: 1, Match: "ma", Player: "ann", Stat: "goal"})
	}
	return l
}

// matches makes plays of so many matches.
func matches(many int) []api.Play {
	var l []api.Play
	for i := range many {
		l = append(l, api.Play{Source: "fa", No: 1 + i, Week: 1, Match: key(i), Player: "ann", Stat: "goal"})
	}
	return l
}

// P2.1: Merge.
func TestMerge(t *testing.T) {
	all := plays("fa 1 9 1 ma ann goal 1", "fa 2 3 1 ma ann goal 1", "fa 7 9 1 ma ann goal 0 2", "fb 1 9 2 mb ann goal 1")
	for _, x := range [][2][]api.Play{
		{nil, all}, {all, nil}, {all, all}, {all[:2], all[2:]}, {all[2:], all[:2]}, {all[1:], all[:3]},
		{{all[0], all[2]}, {all[1], all[3]}},
	} {
		merged, e := Merge(x[0], x[1])
		equal(t, "Merge", e, api.OK)
		list(t, "Merge", merged, all)
	}
	merged, e := Merge(nil, nil)
	equal(t, "nothing", e, api.OK)
	list(t, "nothing", merged, nil)
}

func TestMergeErrors(t *testing.T) {
	one := plays("fa 1 9 1 ma ann goal 1")
	half := api.MaxPlays / 2
	for _, x := range []struct {
		name string
		a, b []api.Play
		want api.Errno
	}{
		{"another source", one, plays("fb 1 8 1 ma ann goal 1"), api.OK},
		{"another moment", one, plays("fa 1 8 1 ma ann goal 1"), api.ErrConflict},
		{"another week", one, plays("fa 1 9 2 ma ann goal 1"), api.ErrConflict},
		{"another match", one, plays("fa 1 9 1 mb ann goal 1"), api.ErrConflict},
		{"another player", one, plays("fa 1 9 1 ma bea goal 1"), api.ErrConflict},
		{"another statistic", one, plays("fa 1 9 1 ma ann pass 1"), api.ErrConflict},
		{"another count", one, plays("fa 1 9 1 ma ann goal 2"), api.ErrConflict},
		{"another undo", plays("fa 9 9 1 ma ann goal 0 1"), plays("fa 9 9 1 ma ann goal 0 2"), api.ErrConflict},
		{"two weeks", one, plays("fa 2 9 2 ma ann goal 1"), api.ErrConflict},
		{"the first one's", plays("fa 0 9 1 ma ann goal 1"), plays("Fa 0 9 1 ma ann goal 1"), api.ErrArg},
		{"the second one's", one, plays("Fa 0 9 1 ma ann goal 1"), api.ErrName},
		{"most", manyPlays(api.MaxPlays)[:half+1], manyPlays(api.MaxPlays)[half:], api.OK},
		{"too many", manyPlays(api.MaxPlays), plays("a 1 9 60 mm ann goal 1"), api.ErrLarge},
		{"too many, and not equal", manyPlays(api.MaxPlays), append(plays("a 1 9 60 mm ann goal 1"), plays(key(0)+" 1 9 60 mm ann goal 1")...), api.ErrConflict},
		{"most sources", sources(api.MaxSources), sources(api.MaxSources), api.OK},
		{"too many sources", sources(api.MaxSources), plays("a 1 9 2 ma ann goal 1"), api.ErrLarge},
		{"too many matches", matches(api.MaxMatches), plays("fb 1 9 1 mm ann goal 1"), api.ErrLarge},
	} {
		merged, e := Merge(x.a, x.b)
		equal(t, x.name, e, x.want)
		equal(t, x.name+": some are returned", len(merged) > 0, x.want == api.OK)
		_, e = Merge(x.b, x.a)
		if !strings.HasPrefix(x.name, "the ") {
			equal(t, x.name+", the other way round", e, x.want)
		}
	}
}

// P2.1: Lacks.
func TestLacks(t *testing.T) {
	all := plays("fa 1 9 1 ma ann goal 1", "fa 2 3 1 ma ann goal 1", "fb 1 9 2 mb ann goal 1")
	other := plays("fa 1 9 1 ma ann goal 2", "fa 2 3 1 ma ann goal 1", "fb 1 8 2 mb ann goal 1", "fc 1 9 2 mb ann goal 1")
	for _, x := range []struct {
		name          string
		l, more, want []api.Play
	}{
		{"all", all, all, nil},
		{"nothing is there", nil, all, all},
		{"no more", all, nil, nil},
		{"some", all[1:2], all, []api.Play{all[0], all[2]}},
		{"those that are not equal", all, other, []api.Play{other[0], other[2], other[3]}},
	} {
		l, e := Lacks(x.l, x.more)
		equal(t, x.name, e, api.OK)
		list(t, x.name, l, x.want)
	}
	wrong := plays("fa 0 9 1 ma ann goal 1")
	_, e := Lacks(wrong, plays("Fa 0 9 1 ma ann goal 1"))
	equal(t, "the first one's error", e, api.ErrArg)
	_, e = Lacks(nil, wrong)
	equal(t, "the second one's error", e, api.ErrArg)
	// What the two would be together is not asked for.
	_, e = Lacks(all, plays("fc 1 9 2 ma ann goal 1"))
	equal(t, "two weeks in two lists", e, api.OK)
}

// P2.1: Undone, and what is taken back.
func TestUndone(t *testing.T) {
	first := "fa 1 50 1 ma ann goal 1"
	for _, x := range []struct {
		name string
		l    []api.Play
		want []int
	}{
		{"none", nil, nil},
		{"no one", plays(first), nil},
		{"one", plays(first, "fa 2 60 1 ma ann goal 0 1"), []int{0}},
		{"told before", plays(first, "fa 2 40 1 ma ann goal 0 1"), []int{0}},
		{"a count of 0", plays("fa 1 50 1 ma ann goal 0", "fa 2 60 1 ma ann goal 0 1"), []int{0}},
		{"twice", plays(first, "fa 2 60 1 ma ann goal 0 1", "fa 3 60 1 ma ann goal 0 1"), []int{0}},
		{"the number in the list", plays("fa 5 50 1 ma ann goal 1", "fb 3 50 1 ma ann goal 1", "fb 6 50 1 ma ann goal 2", "fb 9 60 1 ma ann goal 0 6"), []int{2}},
		{"several, rising", plays(first, "fa 2 50 1 ma bea pass 1", "fa 3 60 1 ma bea pass 0 2", "fa 4 60 1 ma ann goal 0 1"), []int{0, 1}},
		{"no such number", plays(first, "fa 3 60 1 ma ann goal 0 2"), nil},
		{"another source's", plays(first, "fb 2 60 1 ma ann goal 0 1"), nil},
		{"another match", plays(first, "fa 2 60 1 mb ann goal 0 1"), nil},
		{"another player", plays(first, "fa 2 60 1 ma bea goal 0 1"), nil},
		{"another statistic", plays(first, "fa 2 60 1 ma ann pass 0 1"), nil},
		{"what takes back stays", plays(first, "fa 2 60 1 ma ann goal 0 1", "fa 3 60 1 ma ann goal 0 2"), []int{0}},
	} {
		numbers, e := Undone(x.l)
		equal(t, x.name, e, api.OK)
		list(t, x.name, numbers, x.want)
	}
	numbers, e := Undone(plays("fa 1 50 1 ma ann goal 0 1"))
	equal(t, "error", e, api.ErrArg)
	list(t, "error", numbers, nil)
}

// P2.1: Undone of a long list.
func TestUndoneMost(t *testing.T) {
	var l []api.Play
	var want []int
	for i := range api.MaxPlays / 2 {
		l = append(l, api.Play{Source: "fa", No: 1 + i, Week: 1, Match: "ma", Player: "ann", Stat: "goal", Count: 1})
		want = append(want, i)
	}
	for i := range api.MaxPlays / 2 {
		l = append(l, api.Play{Source: "fa", No: 1 + api.MaxPlays/2 + i, Week: 1, Match: "ma", Player: "ann", Stat: "goal", Undo: api.MaxPlays/2 - i})
	}
	numbers, e := Undone(l)
	equal(t, "most", e, api.OK)
	list(t, "most", numbers, want)
	numbers, e = Undone(slices.Delete(l, api.MaxPlays-1, api.MaxPlays))
	equal(t, "all but the first", e, api.OK)
	list(t, "all but the first", numbers, want[1:])
}
