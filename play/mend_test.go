package play

import (
	"fmt"
	"math"
	"math/rand/v2"
	"slices"
	"strings"
	"testing"

	"benchwarmer/api"
)

// P2.3: CheckMends, the errors of one mend.
func TestCheckMend(t *testing.T) {
	right := api.Mend{Player: "bea", Week: 1, Stat: "goal", Count: 1, At: 10, Version: 1, By: "boss"}
	long := strings.Repeat("k", api.MaxName)
	for _, x := range []struct {
		name  string
		spoil func(x *api.Mend)
		want  api.Errno
	}{
		{"ordinary", func(x *api.Mend) {}, api.OK},
		{"least", func(x *api.Mend) { x.Count, x.At = -api.MaxCount, 0 }, api.OK},
		{"greatest", func(x *api.Mend) { x.Week, x.Count, x.At, x.Version = api.MaxWeeks, api.MaxCount, api.End-1, 1_000 }, api.OK},
		{"long keys", func(x *api.Mend) { x.Player, x.Stat, x.By = long, long, long }, api.OK},
		{"count 0", func(x *api.Mend) { x.Count = 0 }, api.OK},
		{"player no key", func(x *api.Mend) { x.Player, x.Week = "", 0 }, api.ErrName},
		{"stat no key", func(x *api.Mend) { x.Stat, x.Week = "Goal", 0 }, api.ErrName},
		{"by no key", func(x *api.Mend) { x.By, x.Week = "the boss", 0 }, api.ErrName},
		{"by too long", func(x *api.Mend) { x.By, x.Week = long+"k", 0 }, api.ErrName},
		{"week 0", func(x *api.Mend) { x.Week = 0 }, api.ErrArg},
		{"week 61", func(x *api.Mend) { x.Week = 61 }, api.ErrArg},
		{"least week", func(x *api.Mend) { x.Week = math.MinInt }, api.ErrArg},
		{"count too great", func(x *api.Mend) { x.Count = api.MaxCount + 1 }, api.ErrArg},
		{"count too small", func(x *api.Mend) { x.Count = -api.MaxCount - 1 }, api.ErrArg},
		{"least count", func(x *api.Mend) { x.Count = math.MinInt }, api.ErrArg},
		{"before the first moment", func(x *api.Mend) { x.At = -1 }, api.ErrArg},
		{"after the last moment", func(x *api.Mend) { x.At = api.End }, api.ErrArg},
		{"version 0", func(x *api.Mend) { x.Version = 0 }, api.ErrArg},
		{"version too great", func(x *api.Mend) { x.Version = 1_001 }, api.ErrArg},
	} {
		one := right
		x.spoil(&one)
		equal(t, x.name, CheckMends([]api.Mend{one}), x.want)
		// Order is asked for behind all that is wrong with one.
		want := x.want
		if want == api.OK {
			want = api.ErrOrder
		}
		equal(t, x.name+", out of order", CheckMends(append(mends("z 1 goal 1 1 1 boss"), one)), want)
	}
}

// P2.3: CheckMends, the errors of several mends.
func TestCheckMends(t *testing.T) {
	for _, x := range []struct {
		name string
		m    []api.Mend
		want api.Errno
	}{
		{"none", nil, api.OK},
		{"ordinary", mends("ann 1 goal 1 9 1 boss", "ann 1 goal 2 3 2 boss", "ann 1 pass 0 9 1 boss", "ann 2 foul 1 9 1 boss", "bea 1 goal 1 1 1 boss"), api.OK},
		{"versions missing", mends("ann 1 goal 1 9 3 boss", "ann 1 goal 2 3 30 boss"), api.OK},
		{"by bytes", mends("a- 1 goal 1 9 1 boss", "a0 1 g- 1 9 1 boss", "a0 1 g_ 1 9 1 boss", "a_ 1 goal 1 9 1 boss"), api.OK},
		{"numbers, not digits", mends("ann 9 goal 1 9 9 boss", "ann 9 goal 1 9 10 boss", "ann 10 goal 1 9 1 boss"), api.OK},
		{"twice", mends("ann 1 goal 1 9 1 boss", "ann 1 goal 1 9 1 boss"), api.ErrOrder},
		{"versions fall", mends("ann 1 goal 1 9 2 boss", "ann 1 goal 1 10 1 boss"), api.ErrOrder},
		{"statistics fall", mends("ann 1 pass 1 9 1 boss", "ann 1 goal 1 9 2 boss"), api.ErrOrder},
		{"weeks fall", mends("ann 2 goal 1 9 1 boss", "ann 1 pass 1 9 2 boss"), api.ErrOrder},
		{"players fall", mends("bea 1 goal 1 9 1 boss", "ann 2 pass 1 9 2 boss"), api.ErrOrder},
		{"by another one", mends("ann 1 goal 1 9 1 boss", "ann 1 goal 1 9 1 chief"), api.ErrOrder},
		{"first one first", mends("bea 1 goal 1 9 1 boss", "ann 1 goal 1 9 1 boss", "Cat 1 goal 1 9 1 boss"), api.ErrOrder},
		{"first one's other error", mends("bea 0 goal 1 9 1 boss", "Cat 1 goal 1 9 1 boss"), api.ErrArg},
		{"most", manyMends(api.MaxMends), api.OK},
		{"too many", manyMends(api.MaxMends + 1), api.ErrLarge},
		{"too many, and wrong", make([]api.Mend, api.MaxMends+1), api.ErrLarge},
	} {
		equal(t, x.name, CheckMends(x.m), x.want)
	}
}

// P2.3: MergeMends.
func TestMergeMends(t *testing.T) {
	all := mends("ann 1 goal 1 9 1 boss", "ann 1 goal 2 3 2 boss", "ann 1 pass 0 9 1 boss", "ann 2 foul 1 9 1 boss", "bea 1 goal 1 1 1 boss")
	for _, x := range [][2][]api.Mend{
		{nil, all}, {all, nil}, {all, all}, {all[:2], all[2:]}, {all[2:], all[:2]}, {all[1:], all[:3]},
		{{all[0], all[2], all[4]}, {all[1], all[3]}},
	} {
		merged, e := MergeMends(x[0], x[1])
		equal(t, "MergeMends", e, api.OK)
		list(t, "MergeMends", merged, all)
	}
	merged, e := MergeMends(nil, nil)
	equal(t, "nothing", e, api.OK)
	list(t, "nothing", merged, nil)
}

func TestMergeMendsErrors(t *testing.T) {
	one, first := mends("ann 1 goal 1 9 1 boss"), mends("a 1 goal 1 9 1 boss")
	half := api.MaxMends / 2
	for _, x := range []struct {
		name string
		a, b []api.Mend
		want api.Errno
	}{
		{"another player", one, mends("bea 1 goal 2 8 1 chief"), api.OK},
		{"another week", one, mends("ann 2 goal 2 8 1 chief"), api.OK},
		{"another statistic", one, mends("ann 1 pass 2 8 1 chief"), api.OK},
		{"another version", one, mends("ann 1 goal 2 8 2 chief"), api.OK},
		{"another count", one, mends("ann 1 goal 2 9 1 boss"), api.ErrConflict},
		{"another moment", one, mends("ann 1 goal 1 8 1 boss"), api.ErrConflict},
		{"by another one", one, mends("ann 1 goal 1 9 1 chief"), api.ErrConflict},
		{"the first one's", mends("ann 0 goal 1 9 1 boss"), mends("Ann 1 goal 1 9 1 boss"), api.ErrArg},
		{"the second one's", one, mends("Ann 1 goal 1 9 1 boss"), api.ErrName},
		{"most", manyMends(api.MaxMends)[:half+1], manyMends(api.MaxMends)[half:], api.OK},
		{"too many", manyMends(api.MaxMends), first, api.ErrLarge},
		{"too many, and not equal", manyMends(api.MaxMends), append(slices.Clone(first), api.Mend{Player: key(0), Week: 1, Stat: "goal", Count: 2, Version: 1, By: "boss"}), api.ErrConflict},
	} {
		merged, e := MergeMends(x.a, x.b)
		equal(t, x.name, e, x.want)
		equal(t, x.name+": some are returned", len(merged) > 0, x.want == api.OK)
		_, e = MergeMends(x.b, x.a)
		if !strings.HasPrefix(x.name, "the ") {
			equal(t, x.name+", the other way round", e, x.want)
		}
	}
}

// P2.3: Mended.
func TestMended(t *testing.T) {
	m := mends(
		"a-n 1 goal 0 40 1 boss",
		"ann 1 foul 9 20 1 boss", "ann 1 foul 0 30 2 chief",
		"ann 1 goal 3 60 1 boss", "ann 1 goal 5 50 3 boss", "ann 1 goal 4 70 4 boss",
		"ann 2 goal 0 10 1 boss", "ann 2 goal 6 80 2 boss")
	for _, x := range []struct {
		at       int
		in, want string
	}{
		{9, "ann 1 goal:1,bea 1 pass:2", "ann 1 goal:1, bea 1 pass:2"},
		{10, "ann 1 goal:1,bea 1 pass:2", "ann 1 goal:1, ann 2, bea 1 pass:2"},
		{10, "ann 1 goal:1,ann 2 goal:1 pass:1", "ann 1 goal:1, ann 2 pass:1"},
		{10, "ann 2 goal:1", "ann 2"},
		{20, "ann 1 goal:1", "ann 1 foul:9 goal:1, ann 2"},
		{30, "ann 1 foul:2 goal:1", "ann 1 goal:1, ann 2"},
		{30, "", "ann 1, ann 2"},
		{40, "", "a-n 1, ann 1, ann 2"},
		{50, "", "a-n 1, ann 1 goal:5, ann 2"},
		// What is later has not the greatest version.
		{60, "", "a-n 1, ann 1 goal:5, ann 2"},
		{70, "ann 1 goal:1 x:1,bea 3", "a-n 1, ann 1 goal:4 x:1, ann 2, bea 3"},
		{api.End - 1, "", "a-n 1, ann 1 goal:4, ann 2 goal:6"},
	} {
		l, e := Mended(listed(x.in), m, x.at)
		equal(t, x.in, e, api.OK)
		equal(t, fmt.Sprint(x.in, " at ", x.at), shown(l), x.want)
		equal(t, "they are lines", CheckLines(l), api.OK)
		again, e := Mended(l, m, x.at)
		equal(t, "again", e, api.OK)
		equal(t, "again", shown(again), x.want)
	}
	for _, at := range []int{-1, api.End, math.MinInt, math.MaxInt} {
		_, e := Mended(nil, nil, at)
		equal(t, "no moment", e, api.ErrArg)
	}
}

// What follows: a mend that is told again changes nothing.
func TestMendToldAgain(t *testing.T) {
	m := mends("ann 1 goal 3 60 1 boss", "ann 1 goal 5 50 3 boss")
	for _, told := range m {
		merged, e := MergeMends(m, []api.Mend{told})
		equal(t, "MergeMends", e, api.OK)
		list(t, "MergeMends", merged, m)
	}
}

// P2.3: as many lines and statistics as Mended can make.
func TestMendedMost(t *testing.T) {
	wide := func(many int) []api.Line { return []api.Line{{Player: "ann", Week: 1, Stats: manyStats(many)}} }
	all, more := manyLines(maxLines, 1), mends("a 1 goal 0 5 1 boss")
	other := func(count int) []api.Mend {
		return []api.Mend{
			{Player: "ann", Week: 1, Stat: key(0), Count: count, Version: 1, By: "boss"},
			{Player: "ann", Week: 1, Stat: "z", Count: 1, Version: 1, By: "boss"},
		}
	}
	for _, x := range []struct {
		name string
		l    []api.Line
		m    []api.Mend
		at   int
		want api.Errno
	}{
		{"most lines", all[1:], more, 5, api.OK},
		{"too many lines", all, more, 5, api.ErrLarge},
		{"too many lines, later", all, more, 4, api.OK},
		{"a line that is there", all, []api.Mend{{Player: key(7), Week: 7, Stat: "goal", Version: 1, By: "boss"}}, 5, api.OK},
		{"most statistics", wide(api.MaxStats - 1), other(2), 5, api.OK},
		{"too many statistics", wide(api.MaxStats), other(2), 5, api.ErrLarge},
		{"one goes, one comes", wide(api.MaxStats), other(0), 5, api.OK},
	} {
		l, e := Mended(x.l, x.m, x.at)
		equal(t, x.name, e, x.want)
		equal(t, x.name+": some are returned", len(l) > 0, x.want == api.OK)
	}
	l, e := Mended(manyLines(maxLines, api.MaxStats), manyMends(api.MaxMends), 0)
	equal(t, "all of both", e, api.ErrLarge)
	equal(t, "all of both", len(l), 0)
}

// P2.3: Since.
func TestSince(t *testing.T) {
	l := plays(
		"fa 1 10 1 ma ann goal 1", "fa 2 20 1 ma ann goal 1", "fa 3 40 1 ma ann goal 0 2", "fa 4 30 2 mb ann goal 7",
		"fb 1 60 1 ma bea pass 5")
	m := mends("ann 1 goal 3 50 1 boss", "ann 1 goal 0 80 2 boss", "ann 2 goal 9 50 1 boss", "bea 1 foul 2 70 1 boss", "cat 1 foul 0 70 1 boss")
	for _, x := range []struct {
		trust          string
		week, from, to int
		want           string
	}{
		{"fa fb", 1, 0, 0, ""},
		{"fa fb", 1, 0, 10, "ann 1 goal:0>1"},
		{"fa fb", 1, 10, 10, ""},
		{"fa fb", 1, 10, 20, "ann 1 goal:1>2"},
		{"fa fb", 1, 10, 40, ""},
		{"fa fb", 1, 20, 40, "ann 1 goal:2>1"},
		{"fa fb", 1, 40, 50, "ann 1 goal:1>3"},
		{"fa fb", 1, 50, 79, "bea 1 foul:0>2"},
		{"fa fb", 1, 40, 80, "ann 1 goal:1>0, bea 1 foul:0>2"},
		{"fa fb", 2, 0, 30, "ann 2 goal:0>7"},
		{"fa fb", 2, 30, api.End - 1, "ann 2 goal:7>9"},
		{"fb fa", 1, 20, 60, "ann 1 goal:2>3, bea 1 pass:0>5"},
		{"fb fa", 1, 20, 49, "ann 1 goal:2>1"},
		{"", 1, 0, 60, "ann 1 goal:0>3"},
		{"fa", 3, 0, api.End - 1, ""},
	} {
		turned, e := Since(l, strings.Fields(x.trust), m, x.week, x.from, x.to)
		equal(t, x.trust, e, api.OK)
		equal(t, fmt.Sprint(x.trust, " ", x.week, " from ", x.from, " to ", x.to), turns(turned), x.want)
	}
}

// P2.3: the errors of Since.
func TestSinceErrors(t *testing.T) {
	full := plays("fa 1 10 1 ma ann goal 100000", "fa 2 20 1 ma ann goal 1", "fa 3 30 1 ma ann goal -1")
	wide := bulk(0, api.MaxStats)
	over := mends("ann 1 z 1 20 1 boss", "ann 1 z 0 30 2 boss", "ann 2 z 1 0 1 boss")
	for _, x := range []struct {
		name           string
		l              []api.Play
		m              []api.Mend
		week, from, to int
		want           api.Errno
	}{
		{"week 0", nil, nil, 0, 0, 0, api.ErrArg},
		{"week 61", nil, nil, 61, 0, 0, api.ErrArg},
		{"from before the first moment", nil, nil, 1, -1, 0, api.ErrArg},
		{"to after the last moment", nil, nil, 1, 0, api.End, api.ErrArg},
		{"both after the last moment", nil, nil, 1, api.End, api.End, api.ErrArg},
		{"any ints", nil, nil, 1, math.MinInt, math.MaxInt, api.ErrArg},
		{"to before from", nil, nil, 1, 1, 0, api.ErrArg},
		{"all of time", nil, nil, 60, 0, api.End - 1, api.OK},
		{"a week, before what is full", full, nil, 0, 20, 20, api.ErrArg},
		{"not yet full", full, nil, 1, 0, 19, api.OK},
		{"full at to", full, nil, 1, 0, 20, api.ErrFull},
		{"full at from", full, nil, 1, 20, 30, api.ErrFull},
		{"full in between", full, nil, 1, 19, 30, api.OK},
		{"too wide at to", wide, over, 1, 0, 20, api.ErrLarge},
		{"too wide at from", wide, over, 1, 20, 30, api.ErrLarge},
		{"too wide in between", wide, over, 1, 19, 30, api.OK},
		{"mends of another week", wide, over[2:], 1, 0, 30, api.OK},
		// Mended at from comes before Lines at to.
		{"too wide, then full", append(slices.Clone(wide), api.Play{Source: "fa", No: 100, At: 5, Week: 1, Match: "ma", Player: "ann", Stat: "sum", Count: api.MaxCount}, api.Play{Source: "fa", No: 101, At: 5, Week: 1, Match: "ma", Player: "ann", Stat: "sum", Count: 1}), mends("ann 1 z 1 0 1 boss"), 1, 0, 5, api.ErrLarge},
	} {
		turned, e := Since(x.l, []string{"fa"}, x.m, x.week, x.from, x.to)
		equal(t, x.name, e, x.want)
		if e != api.OK {
			list(t, x.name, turned, nil)
		}
	}
}

// P2.3: Since is Differ of the lines that are mended.
func TestSincePlainly(t *testing.T) {
	r := rand.New(rand.NewPCG(7, 8))
	seen := 0
	for range 200 {
		l, trust := feed(r), []string{"fb", "fa"}
		var m []api.Mend
		for i, player := range []string{"ann", "bea", "cat"} {
			for version := 1; version <= 3; version++ {
				m = append(m, api.Mend{Player: player, Week: 1 + i%2, Stat: "goal", Count: r.IntN(3), At: r.IntN(10), Version: version, By: "boss"})
			}
		}
		from := r.IntN(10)
		to := from + r.IntN(10-from)
		at := func(moment int) []api.Line {
			lines, e := Lines(l, trust, 2, moment)
			equal(t, "Lines", e, api.OK)
			lines, e = Mended(lines, m[3:6], moment)
			equal(t, "Mended", e, api.OK)
			return lines
		}
		want, e := Differ(at(from), at(to))
		equal(t, "Differ", e, api.OK)
		turned, e := Since(l, trust, m, 2, from, to)
		equal(t, "Since", e, api.OK)
		list(t, "Since", turned, want)
		seen += len(want)
	}
	equal(t, "counts are seen", seen > 50, true)
}
