package play

import (
	"fmt"
	"math"
	"math/rand/v2"
	"strings"
	"testing"

	"benchwarmer/api"
)

// P2.3: CheckLines, the errors of one line.
func TestCheckLine(t *testing.T) {
	long := key(0)
	for _, x := range []struct {
		name, line string
		want       api.Errno
	}{
		{"ordinary", "b 1 goal:1 pass:-2", api.OK},
		{"without statistics", "b 60", api.OK},
		{"bounds", long + " 1 " + long + ":100000 l:-100000", api.OK},
		{"by bytes", "b 1 a-:1 a0:1 a_:1 aa:1", api.OK},
		{"player no key", "B 0 goal:1", api.ErrName},
		{"player too long", long + "k 0", api.ErrName},
		{"week 0", "b 0 Goal:1", api.ErrArg},
		{"week 61", "b 61 Goal:1", api.ErrArg},
		{"week below 0", "b -1 Goal:1", api.ErrArg},
		{"stat no key", "b 1 Goal:0", api.ErrName},
		{"stat empty", "b 1 :0", api.ErrName},
		{"count 0", "b 1 goal:1 foul:0", api.ErrArg},
		{"count too great", "b 1 goal:1 foul:100001", api.ErrArg},
		{"count too small", "b 1 goal:1 foul:-100001", api.ErrArg},
		{"stats fall", "b 1 goal:1 foul:1", api.ErrOrder},
		{"stat twice", "b 1 goal:1 goal:1", api.ErrOrder},
		{"first one first", "b 1 goal:0 Goal:1", api.ErrArg},
		{"first one's order first", "b 1 goal:1 foul:1 Goal:1", api.ErrOrder},
	} {
		one := told(x.line)
		equal(t, x.name, CheckLines(one), x.want)
		// Order of lines is asked for behind all that is wrong with one.
		want := x.want
		if want == api.OK {
			want = api.ErrOrder
		}
		equal(t, x.name+", out of order", CheckLines(append(told("z 1"), one...)), want)
	}
	for _, n := range []int{math.MinInt, math.MaxInt} {
		equal(t, "any week", CheckLines([]api.Line{{Player: "b", Week: n}}), api.ErrArg)
		equal(t, "any count", CheckLines([]api.Line{{Player: "b", Week: 1, Stats: []api.Stat{{Name: "goal", Count: n}}}}), api.ErrArg)
	}
}

// P2.3: CheckLines, the errors of several lines, and of many.
func TestCheckLines(t *testing.T) {
	wide := func(many int) []api.Line { return []api.Line{{Player: "b", Week: 1, Stats: manyStats(many)}} }
	for _, x := range []struct {
		name string
		l    []api.Line
		want api.Errno
	}{
		{"none", nil, api.OK},
		{"ordinary", told("ann 1 goal:1", "ann 2", "bea 1 goal:1"), api.OK},
		{"by bytes", told("a- 1", "a0 1", "a_ 1", "aa 1"), api.OK},
		{"weeks by number", told("ann 9", "ann 10"), api.OK},
		{"twice", told("ann 1", "ann 1 goal:1"), api.ErrOrder},
		{"weeks fall", told("ann 2", "ann 1"), api.ErrOrder},
		{"players fall", told("bea 1", "ann 2"), api.ErrOrder},
		{"first one first", told("bea 1", "ann 2", "Cat 1"), api.ErrOrder},
		{"first one's other error", told("bea 0", "Cat 2"), api.ErrArg},
		{"most statistics", wide(api.MaxStats), api.OK},
		{"too many statistics", wide(api.MaxStats + 1), api.ErrLarge},
		{"too many statistics, and wrong", []api.Line{{Player: "b", Week: 1, Stats: make([]api.Stat, api.MaxStats+1)}}, api.ErrLarge},
		{"too many statistics, and a week", []api.Line{{Player: "b", Stats: manyStats(api.MaxStats + 1)}}, api.ErrArg},
		{"most", manyLines(api.MaxPlayers*api.MaxWeeks, 1), api.OK},
		{"too many", manyLines(api.MaxPlayers*api.MaxWeeks+1, 1), api.ErrLarge},
		{"too many, and wrong", make([]api.Line, api.MaxPlayers*api.MaxWeeks+1), api.ErrLarge},
	} {
		equal(t, x.name, CheckLines(x.l), x.want)
	}
}

// P2.3: Differ.
func TestDiffer(t *testing.T) {
	for _, x := range []struct {
		name, a, b, want string
	}{
		{"nothing", "", "", ""},
		{"the same", "ann 1 goal:1,bea 2", "ann 1 goal:1,bea 2", ""},
		{"another count", "ann 1 goal:1 pass:3", "ann 1 goal:2 pass:3", "ann 1 goal:1>2"},
		{"below 0", "ann 1 goal:-100000", "ann 1 goal:100000", "ann 1 goal:-100000>100000"},
		{"a count that is missing", "ann 1 foul:1 goal:1", "ann 1 goal:1 pass:2", "ann 1 foul:1>0, ann 1 pass:0>2"},
		{"a line that is missing", "ann 1 goal:1", "ann 2 goal:1", "ann 1 goal:1>0, ann 2 goal:0>1"},
		{"a list that is missing", "", "ann 1 goal:1 pass:1,bea 1 goal:2", "ann 1 goal:0>1, ann 1 pass:0>1, bea 1 goal:0>2"},
		{"the other one", "ann 1 goal:1 pass:1,bea 1 goal:2", "", "ann 1 goal:1>0, ann 1 pass:1>0, bea 1 goal:2>0"},
		{"a line without counts", "ann 1", "bea 1", ""},
		{"by player, week, statistic", "ann 10 goal:1,bea 1 goal:1", "a-n 3 z:1,ann 9 goal:1 pass:1,ann 10 foul:1,bea 2 a:1", "a-n 3 z:0>1, ann 9 goal:0>1, ann 9 pass:0>1, ann 10 foul:0>1, ann 10 goal:1>0, bea 1 goal:1>0, bea 2 a:0>1"},
	} {
		turned, e := Differ(listed(x.a), listed(x.b))
		equal(t, x.name, e, api.OK)
		equal(t, x.name, turns(turned), x.want)
	}
}

// listed makes lines of a string that has commas between them.
func listed(s string) []api.Line {
	if s == "" {
		return nil
	}
	return told(strings.Split(s, ",")...)
}

// season makes lines at random.
func season(r *rand.Rand) []api.Line {
	var l []api.Line
	for _, player := range []string{"ann", "bea", "cat"} {
		for week := 1; week <= 3; week++ {
			x := api.Line{Player: player, Week: week}
			for _, stat := range []string{"foul", "goal", "pass"} {
				if count := r.IntN(5) - 2; count != 0 {
					x.Stats = append(x.Stats, api.Stat{Name: stat, Count: count})
				}
			}
			if r.IntN(3) > 0 {
				l = append(l, x)
			}
		}
	}
	return l
}

// plainCount is a count, found line by line.
func plainCount(l []api.Line, player string, week int, stat string) int {
	for _, x := range l {
		for _, s := range x.Stats {
			if x.Player == player && x.Week == week && s.Name == stat {
				return s.Count
			}
		}
	}
	return 0
}

// P2.3: Differ, Count and Sums, held against the document's words.
func TestLinesOfSeason(t *testing.T) {
	r := rand.New(rand.NewPCG(5, 6))
	for range 300 {
		a, b := season(r), season(r)
		var differ, sums []string
		for _, player := range []string{"ann", "bea", "cat"} {
			line, there := player+" 1", false
			all := map[string]int{}
			for week := 1; week <= 3; week++ {
				there = there || strings.Contains(shown(a), fmt.Sprint(player, " ", week))
				for _, stat := range []string{"foul", "goal", "pass"} {
					one, two := plainCount(a, player, week, stat), plainCount(b, player, week, stat)
					all[stat] += one
					if one != two {
						differ = append(differ, fmt.Sprintf("%s %d %s:%d>%d", player, week, stat, one, two))
					}
					n, e := Count(a, player, week, stat)
					equal(t, "Count", e, api.OK)
					equal(t, "Count", n, one)
				}
			}
			for _, stat := range []string{"foul", "goal", "pass"} {
				if all[stat] != 0 {
					line += fmt.Sprint(" ", stat, ":", all[stat])
				}
			}
			if there {
				sums = append(sums, line)
			}
		}
		turned, e := Differ(a, b)
		equal(t, "Differ", e, api.OK)
		equal(t, "Differ", turns(turned), strings.Join(differ, ", "))
		together, e := Sums(a)
		equal(t, "Sums", e, api.OK)
		equal(t, "Sums", shown(together), strings.Join(sums, ", "))
		if t.Failed() {
			t.Fatal(shown(a), shown(b))
		}
	}
}

// P2.3: Count.
func TestCount(t *testing.T) {
	l := told("ann 1 foul:2 goal:-1", "ann 3 goal:100000", "bea 1")
	for _, x := range []struct {
		player string
		week   int
		stat   string
		count  int
		want   api.Errno
	}{
		{"ann", 1, "foul", 2, api.OK},
		{"ann", 1, "goal", -1, api.OK},
		{"ann", 3, "goal", 100_000, api.OK},
		{"ann", 1, "pass", 0, api.OK},
		{"ann", 2, "goal", 0, api.OK},
		{"ann", 3, "foul", 0, api.OK},
		{"ann", 60, "goal", 0, api.OK},
		{"bea", 1, "goal", 0, api.OK},
		{"cat", 1, "goal", 0, api.OK},
		{"Ann", 0, "", 0, api.ErrName},
		{"", 1, "goal", 0, api.ErrName},
		{"ann", 0, "", 0, api.ErrArg},
		{"ann", 61, "", 0, api.ErrArg},
		{"ann", math.MinInt, "goal", 0, api.ErrArg},
		{"ann", math.MaxInt, "goal", 0, api.ErrArg},
		{"ann", 1, "", 0, api.ErrName},
		{"ann", 1, "Goal", 0, api.ErrName},
	} {
		n, e := Count(l, x.player, x.week, x.stat)
		equal(t, fmt.Sprint(x), e, x.want)
		equal(t, fmt.Sprint(x), n, x.count)
	}
}

// P2.3: Sums.
func TestSums(t *testing.T) {
	for in, want := range map[string]string{
		"":                                "",
		"ann 5":                           "ann 1",
		"ann 5 goal:1":                    "ann 1 goal:1",
		"ann 1 goal:1,ann 2 goal:-1":      "ann 1",
		"ann 1 z:1,ann 2 a:1 z:2,b 9 g:1": "ann 1 a:1 z:3, b 1 g:1",
		"a- 2 x:1,a0 1 x:1,a_ 1 x:1":      "a- 1 x:1, a0 1 x:1, a_ 1 x:1",
		"ann 1 goal:100000,ann 2 goal:1,ann 3 goal:-1": "ann 1 goal:100000",
	} {
		l, e := Sums(listed(in))
		equal(t, in, e, api.OK)
		equal(t, in, shown(l), want)
	}
}

// spread makes two lines of a player, with so many statistics together, of which the first one counts so much.
func spread(many, first int) []api.Line {
	all := manyStats(many)
	all[0].Count = first
	half := many / 2
	return []api.Line{{Player: "ann", Week: 1, Stats: all[:half]}, {Player: "ann", Week: 2, Stats: all[half:]}}
}

// P2.3: the errors of Sums.
func TestSumsErrors(t *testing.T) {
	goals := func(one, two int) []api.Line {
		return told(fmt.Sprint("ann 1 goal:", one), fmt.Sprint("ann 2 goal:", two))
	}
	gone := spread(api.MaxStats+1, 7)
	gone[1].Stats = append([]api.Stat{{Name: key(0), Count: -7}}, gone[1].Stats...)
	for _, x := range []struct {
		name string
		l    []api.Line
		want api.Errno
	}{
		{"most", goals(99_999, 1), api.OK},
		{"one more", goals(100_000, 1), api.ErrFull},
		{"least", goals(-99_999, -1), api.OK},
		{"one less", goals(-100_000, -1), api.ErrFull},
		{"most statistics", spread(api.MaxStats, 1), api.OK},
		{"too many statistics", spread(api.MaxStats+1, 1), api.ErrFull},
		{"as many, with one that is 0", gone, api.OK},
		{"of a later player", append(told("a 1 goal:1"), goals(100_000, 1)...), api.ErrFull},
		{"lines first", append(goals(100_000, 1), told("a 1")...), api.ErrOrder},
	} {
		l, e := Sums(x.l)
		equal(t, x.name, e, x.want)
		equal(t, x.name+": some are returned", len(l) > 0, x.want == api.OK)
	}
}

// P2.3: as many lines with as many statistics as there can be.
func TestLinesMost(t *testing.T) {
	l := manyLines(maxLines, api.MaxStats)
	sums, e := Sums(l)
	equal(t, "Sums", e, api.OK)
	equal(t, "Sums", len(sums), api.MaxPlayers)
	last := sums[api.MaxPlayers-1]
	equal(t, "Sums: the last one", last.Stats[api.MaxStats-1], api.Stat{Name: key(api.MaxStats - 1), Count: api.MaxWeeks})
	turned, e := Differ(l, nil)
	equal(t, "Differ", e, api.OK)
	equal(t, "Differ", len(turned), maxLines*api.MaxStats)
	n, e := Count(l, key(api.MaxPlayers-1), api.MaxWeeks, key(api.MaxStats-1))
	equal(t, "Count", e, api.OK)
	equal(t, "Count", n, 1)
}
