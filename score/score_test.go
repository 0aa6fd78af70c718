package score

import (
	"fmt"
	"math"
	"math/rand/v2"
	"slices"
	"strings"
	"testing"

	"benchwarmer/api"
)

// P3.1: CheckLine.
func TestCheckLine(t *testing.T) {
	for _, x := range []struct {
		name string
		l    api.Line
		want api.Errno
	}{
		{"ordinary", did("ann 1 goal:1 pass:-2")[0], api.OK},
		{"without statistics", did("ann 60")[0], api.OK},
		{"count 0", did("ann 1 goal:0")[0], api.OK},
		{"bounds", did("ann 1 goal:100000 pass:-100000")[0], api.OK},
		{"by bytes", did("ann 1 a-:1 a0:1 a_:1 aa:1")[0], api.OK},
		{"most statistics", api.Line{Player: key(0), Week: 1, Stats: manyStats(api.MaxStats, 1)}, api.OK},
		{"nothing", api.Line{}, api.ErrName},
		{"player no key", did("Ann 0")[0], api.ErrName},
		{"player too long", did(key(0) + "k 0")[0], api.ErrName},
		{"week 0", api.Line{Player: "ann", Stats: manyStats(api.MaxStats+1, 1)}, api.ErrArg},
		{"week 61", did("ann 61 Goal:1")[0], api.ErrArg},
		{"any week", api.Line{Player: "ann", Week: math.MinInt}, api.ErrArg},
		{"too many statistics", api.Line{Player: "ann", Week: 1, Stats: manyStats(api.MaxStats+1, 1)}, api.ErrLarge},
		{"too many statistics, and wrong", api.Line{Player: "ann", Week: 1, Stats: make([]api.Stat, api.MaxStats+1)}, api.ErrLarge},
		{"stat no key", did("ann 1 Goal:100001")[0], api.ErrName},
		{"stat empty", did("ann 1 :1")[0], api.ErrName},
		{"count too great", did("ann 1 goal:1 foul:100001")[0], api.ErrArg},
		{"count too small", did("ann 1 goal:1 foul:-100001")[0], api.ErrArg},
		{"any count", api.Line{Player: "ann", Week: 1, Stats: []api.Stat{{Name: "goal", Count: math.MaxInt}}}, api.ErrArg},
		{"statistics fall", did("ann 1 goal:1 foul:1 Pass:1")[0], api.ErrOrder},
		{"statistic twice", did("ann 1 goal:1 goal:1")[0], api.ErrOrder},
		{"first one first", did("ann 1 goal:100001 Goal:1")[0], api.ErrArg},
	} {
		equal(t, x.name, CheckLine(x.l), x.want)
	}
}

// P3.1: CheckRules, the errors of one rule.
func TestCheckRule(t *testing.T) {
	for _, x := range []struct {
		name  string
		spoil func(x *api.Rule)
		want  api.Errno
	}{
		{"ordinary", func(x *api.Rule) {}, api.OK},
		{"a position", func(x *api.Rule) { x.Position = "gk" }, api.OK},
		{"long keys", func(x *api.Rule) { x.Key, x.Stat, x.Position = key(9), key(9), key(9) }, api.OK},
		{"worth nothing", func(x *api.Rule) { x.Worth = frac("0/1") }, api.OK},
		{"greatest worth", func(x *api.Rule) { x.Worth = frac("10000") }, api.OK},
		{"least worth", func(x *api.Rule) { x.Worth = frac("-10000") }, api.OK},
		{"a hundredth below it", func(x *api.Rule) { x.Worth = frac("999999/100") }, api.OK},
		{"key no key", func(x *api.Rule) { x.Key, x.Kind = "B", 0 }, api.ErrName},
		{"key empty", func(x *api.Rule) { x.Key, x.Kind = "", 0 }, api.ErrName},
		{"stat no key", func(x *api.Rule) { x.Stat, x.Kind = "the yards", 0 }, api.ErrName},
		{"stat empty", func(x *api.Rule) { x.Stat, x.Kind = "", 0 }, api.ErrName},
		{"stat too long", func(x *api.Rule) { x.Stat, x.Kind = key(0)+"k", 0 }, api.ErrName},
		{"position no key", func(x *api.Rule) { x.Position, x.Kind = "-", 0 }, api.ErrName},
		{"kind 0", func(x *api.Rule) { x.Kind, x.Many = 0, 1 }, api.ErrKind},
		{"kind 5", func(x *api.Rule) { x.Kind, x.Many = 5, 1 }, api.ErrKind},
		{"any kind", func(x *api.Rule) { x.Kind, x.Many = math.MinInt, 1 }, api.ErrKind},
		{"each with many", func(x *api.Rule) { x.Many, x.Worth = 1, frac("2/4") }, api.ErrArg},
		{"each with many below 0", func(x *api.Rule) { x.Many = -1 }, api.ErrArg},
		{"none without many", func(x *api.Rule) { x.Kind = api.RuleNone }, api.OK},
		{"none with many", func(x *api.Rule) { x.Kind, x.Many = api.RuleNone, 1 }, api.ErrArg},
		{"step without many", func(x *api.Rule) { x.Kind = api.RuleStep }, api.ErrArg},
		{"step of 1", func(x *api.Rule) { x.Kind, x.Many = api.RuleStep, 1 }, api.OK},
		{"greatest step", func(x *api.Rule) { x.Kind, x.Many = api.RuleStep, api.MaxCount }, api.OK},
		{"too great a step", func(x *api.Rule) { x.Kind, x.Many = api.RuleStep, api.MaxCount+1 }, api.ErrArg},
		{"step below 0", func(x *api.Rule) { x.Kind, x.Many = api.RuleStep, math.MinInt }, api.ErrArg},
		{"from 0 on", func(x *api.Rule) { x.Kind = api.RuleFrom }, api.ErrArg},
		{"from 1 on", func(x *api.Rule) { x.Kind, x.Many = api.RuleFrom, 1 }, api.OK},
		{"from the greatest on", func(x *api.Rule) { x.Kind, x.Many = api.RuleFrom, api.MaxCount }, api.OK},
		{"from more on", func(x *api.Rule) { x.Kind, x.Many = api.RuleFrom, api.MaxCount+1 }, api.ErrArg},
		{"no lowest terms", func(x *api.Rule) { x.Worth = frac("2/4") }, api.ErrForm},
		{"no lowest terms, and too great", func(x *api.Rule) { x.Worth = frac("40000/2") }, api.ErrForm},
		{"nothing over nothing", func(x *api.Rule) { x.Worth = api.Fraction{} }, api.ErrForm},
		{"nothing over two", func(x *api.Rule) { x.Worth = frac("0/2") }, api.ErrForm},
		{"den below 0", func(x *api.Rule) { x.Worth = frac("1/-2") }, api.ErrForm},
		{"thirds", func(x *api.Rule) { x.Worth = frac("1/3") }, api.ErrArg},
		{"thousandths", func(x *api.Rule) { x.Worth = frac("1/1000") }, api.ErrArg},
		{"worth too great", func(x *api.Rule) { x.Worth = frac("10001") }, api.ErrArg},
		{"worth too great by a hundredth", func(x *api.Rule) { x.Worth = frac("1000001/100") }, api.ErrArg},
		{"worth too small", func(x *api.Rule) { x.Worth = frac("-1000001/100") }, api.ErrArg},
		{"least int", func(x *api.Rule) { x.Worth = api.Fraction{Num: math.MinInt, Den: 1} }, api.ErrArg},
		{"least ints", func(x *api.Rule) { x.Worth = api.Fraction{Num: math.MinInt, Den: math.MinInt} }, api.ErrForm},
		{"greatest den", func(x *api.Rule) { x.Worth = api.Fraction{Num: 1, Den: math.MaxInt} }, api.ErrArg},
	} {
		one := rules("a yard - each 0 1/25")[0]
		x.spoil(&one)
		equal(t, x.name, CheckRules([]api.Rule{one}), x.want)
		// Order is asked for behind names, and before all else.
		want := x.want
		if want != api.ErrName {
			want = api.ErrOrder
		}
		equal(t, x.name+", out of order", CheckRules(append(rules("z yard - each 0 1"), one)), want)
	}
}

// P3.1: CheckRules, the errors of several rules, and of many.
func TestCheckRules(t *testing.T) {
	for _, x := range []struct {
		name string
		r    []api.Rule
		want api.Errno
	}{
		{"none", nil, api.OK},
		{"ordinary", rules("a yard - each 0 1/25", "b yard - from 100 3", "c goal gk none 0 4", "d save - step 3 1"), api.OK},
		{"by bytes", rules("a- goal - each 0 1", "a0 goal - each 0 1", "a_ goal - each 0 1", "aa goal - each 0 1"), api.OK},
		{"twice", rules("a goal - each 0 1", "a pass - each 0 1"), api.ErrOrder},
		{"falling", rules("b goal - each 0 1", "a goal - each 0 1"), api.ErrOrder},
		{"first one first", rules("b goal - each 0 1/3", "A goal - each 0 1"), api.ErrArg},
		{"most", manyRules(api.MaxRules), api.OK},
		{"too many", manyRules(api.MaxRules + 1), api.ErrLarge},
		{"too many, and wrong", make([]api.Rule, api.MaxRules+1), api.ErrLarge},
	} {
		equal(t, x.name, CheckRules(x.r), x.want)
	}
}

// P3.2: what one rule gives for one count.
func TestOneRule(t *testing.T) {
	for _, x := range []struct {
		rule  string
		count int
		want  string
	}{
		{"each 0 1/25", 110, "22/5"}, {"each 0 1/25", -1, "-1/25"}, {"each 0 -1/2", 3, "-3/2"}, {"each 0 5", 0, "0/1"}, {"each 0 0", 7, "0/1"},
		{"each 0 1/4", 4, "1/1"}, {"each 0 1/100", 110, "11/10"}, {"each 0 10000", 100_000, "1000000000/1"}, {"each 0 999999/100", -100_000, "-999999000/1"},
		{"step 3 1", 7, "2/1"}, {"step 3 1", 2, "0/1"}, {"step 3 1", 3, "1/1"}, {"step 3 1", 0, "0/1"}, {"step 3 1", -1, "0/1"}, {"step 3 1", -7, "0/1"}, {"step 3 -1/2", 9, "-3/2"}, {"step 1 1/4", 5, "5/4"}, {"step 1 1/4", 0, "0/1"}, {"step 1 1/4", -1, "0/1"}, {"step 100000 2", 100_000, "2/1"},
		{"from 100 3", 100, "3/1"}, {"from 100 3", 99, "0/1"}, {"from 100 3", 100_000, "3/1"}, {"from 1 3", 0, "0/1"}, {"from 1 3", -5, "0/1"}, {"from 1 -3/4", 1, "-3/4"},
		{"none 0 4", 0, "4/1"}, {"none 0 4", 1, "0/1"}, {"none 0 4", -1, "0/1"}, {"none 0 -4/5", 0, "-4/5"},
	} {
		r := rules("a goal - " + x.rule)
		told := api.Line{Player: "ann", Week: 1, Stats: []api.Stat{{Name: "foul", Count: 7}, {Name: "goal", Count: x.count}, {Name: "pass", Count: 8}}}
		gives(t, fmt.Sprint(x.rule, " for ", x.count), r, told, x.want)
		if x.count == 0 {
			told.Stats = []api.Stat{{Name: "foul", Count: 7}, {Name: "pass", Count: 8}}
			gives(t, x.rule+" for what is not told", r, told, x.want)
			told.Stats = nil
			gives(t, x.rule+" for nothing", r, told, x.want)
		}
	}
}

// gives tests Points and Parts of one rule.
func gives(t *testing.T, name string, r []api.Rule, l api.Line, want string) {
	t.Helper()
	p, e := Points(r, nil, l)
	equal(t, name, e, api.OK)
	equal(t, name, p, frac(want))
	parts, e := Parts(r, nil, l)
	equal(t, name, e, api.OK)
	if want == "0/1" {
		list(t, name, parts, nil)
	} else {
		list(t, name, parts, []api.Pair{{Name: "a", Value: want}})
	}
}

// P3.2: Points and Parts.
func TestPoints(t *testing.T) {
	r := rules("a yard - each 0 1/25", "b yard - from 100 3", "c goal gk none 0 4", "d save - step 3 1", "e yard df each 0 -1/10", "f foul mf each 0 -3/4")
	for _, x := range []struct {
		positions, line, want, parts string
	}{
		{"-", "ann 1 yard:110", "37/5", "a 22/5, b 3/1"},
		{"-", "ann 1 yard:99", "99/25", "a 99/25"},
		{"-", "ann 1", "0/1", ""},
		{"gk", "ann 1", "4/1", "c 4/1"},
		{"gk", "ann 1 goal:0", "4/1", "c 4/1"},
		{"gk", "ann 1 goal:1 save:7", "2/1", "d 2/1"},
		{"gk,mf", "ann 1 foul:2 save:7", "9/2", "c 4/1, d 2/1, f -3/2"},
		{"df", "ann 1 yard:110", "-18/5", "a 22/5, b 3/1, e -11/1"},
		{"df", "ann 1 yard:-50", "3/1", "a -2/1, e 5/1"},
		{"ab,cd", "ann 1 foul:9 other:7", "0/1", ""},
	} {
		l := did(x.line)[0]
		p, e := Points(r, names(x.positions), l)
		equal(t, x.line, e, api.OK)
		equal(t, x.positions+" "+x.line, p, frac(x.want))
		parts, e := Parts(r, names(x.positions), l)
		equal(t, x.line, e, api.OK)
		var all []string
		for _, part := range parts {
			all = append(all, part.Name+" "+part.Value)
		}
		equal(t, x.positions+" "+x.line, strings.Join(all, ", "), x.parts)
	}
	p, e := Points(nil, nil, did("ann 1 goal:1")[0])
	equal(t, "no rules", e, api.OK)
	equal(t, "no rules", p, frac("0/1"))
	// Rules that cancel each other out give nothing together, but each of them has its part.
	r = rules("a goal - each 0 1/2", "b goal - each 0 -1/2")
	p, _ = Points(r, nil, did("ann 1 goal:3")[0])
	equal(t, "cancelled", p, frac("0/1"))
	parts, _ := Parts(r, nil, did("ann 1 goal:3")[0])
	list(t, "cancelled", parts, []api.Pair{{Name: "a", Value: "3/2"}, {Name: "b", Value: "-3/2"}})
}

// P3.2: as many points as there can be; they may be more than a scorer can have.
func TestMostPoints(t *testing.T) {
	r := manyRules(api.MaxRules)
	for i := range r {
		r[i].Kind, r[i].Many = api.RuleEach, 0
	}
	l := api.Line{Player: "ann", Week: 1, Stats: manyStats(api.MaxStats, api.MaxCount)}
	p, e := Points(r, keys(api.MaxPositions), l)
	equal(t, "most points", e, api.OK)
	equal(t, "most points", p, api.Fraction{Num: -99_999_900_000, Den: 1})
	var season []api.Line
	for week := 1; week <= api.MaxWeeks; week++ {
		l.Week = week
		season = append(season, l)
	}
	p, e = Total(r, keys(api.MaxPositions), season, api.Window{From: 1, To: api.MaxWeeks + 1})
	equal(t, "a season", e, api.OK)
	equal(t, "a season", p, api.Fraction{Num: -5_999_994_000_000, Den: 1})
	parts, e := Parts(r, keys(3), l)
	equal(t, "parts", e, api.OK)
	equal(t, "parts", len(parts), 30)
}

// P3.1: positions and lines that functions with rules do not take.
func TestPositionsOfPoints(t *testing.T) {
	fine := did("ann 1 goal:1")
	for _, x := range []struct {
		name      string
		positions []string
		l         []api.Line
		want      api.Errno
	}{
		{"no positions", nil, fine, api.OK},
		{"most positions", keys(api.MaxPositions), fine, api.OK},
		{"too many positions", keys(api.MaxPositions + 1), fine, api.ErrLarge},
		{"too many positions, and wrong", make([]string, api.MaxPositions+1), fine, api.ErrLarge},
		{"no key", []string{"b", "A"}, fine, api.ErrName},
		{"falling", []string{"b", "a", "A"}, fine, api.ErrOrder},
		{"twice", []string{"b", "b"}, fine, api.ErrOrder},
		{"by bytes", []string{"a-", "a0", "a_", "aa"}, fine, api.OK},
		{"positions before the line", []string{"b", "b"}, did("Ann 1"), api.ErrOrder},
		{"the line's player", nil, did("Ann 0"), api.ErrName},
		{"the line's week", nil, did("ann 61"), api.ErrArg},
		{"the line's statistics", nil, did("ann 1 b:1 a:1"), api.ErrOrder},
		{"too many statistics", nil, []api.Line{{Player: "ann", Week: 1, Stats: manyStats(api.MaxStats+1, 1)}}, api.ErrLarge},
	} {
		_, e := Points(nil, x.positions, x.l[0])
		equal(t, x.name, e, x.want)
		_, e = Parts(nil, x.positions, x.l[0])
		equal(t, x.name, e, x.want)
		_, e = Total(nil, x.positions, x.l, api.Window{From: 1, To: 1})
		equal(t, x.name, e, x.want)
	}
}

// P3.2: Total.
func TestTotal(t *testing.T) {
	r := rules("a goal - each 0 1/4", "b save gk none 0 2")
	l := did("ann 1 goal:1", "ann 2 goal:2", "ann 5 goal:4", "ann 60 goal:-8")
	for _, x := range []struct {
		from, to  int
		positions string
		want      string
	}{
		{1, 61, "df", "-1/4"}, {1, 61, "gk", "31/4"}, {1, 60, "df", "7/4"}, {1, 2, "df", "1/4"}, {2, 5, "df", "1/2"}, {2, 6, "df", "3/2"},
		{3, 5, "gk", "0/1"}, {1, 1, "gk", "0/1"}, {60, 60, "gk", "0/1"}, {60, 61, "gk", "0/1"}, {60, 61, "df", "-2/1"}, {61, 61, "df", "0/1"},
	} {
		p, e := Total(r, names(x.positions), l, api.Window{From: x.from, To: x.to})
		name := fmt.Sprint(x.positions, " from ", x.from, " to ", x.to)
		equal(t, name, e, api.OK)
		equal(t, name, p, frac(x.want))
	}
	p, e := Total(r, names("gk"), nil, api.Window{From: 1, To: 61})
	equal(t, "no lines", e, api.OK)
	equal(t, "no lines", p, frac("0/1"))
	p, e = Total(r, nil, did("zoe 1 goal:1", "ann 2 goal:1"), api.Window{From: 1, To: 61})
	equal(t, "lines of several", e, api.OK)
	equal(t, "lines of several", p, frac("1/2"))
}

// P3.2: Total is the sum of Points.
func TestTotalPlainly(t *testing.T) {
	random := rand.New(rand.NewPCG(1, 2))
	r := rules("a goal - each 0 1/4", "b goal gk from 2 -3/50", "c pass - step 2 7/20", "d foul df none 0 1/100")
	for range 300 {
		var l []api.Line
		for week := 1; week <= 9; week++ {
			if random.IntN(3) > 0 {
				l = append(l, did(fmt.Sprintf("ann %d foul:%d goal:%d pass:%d", week, random.IntN(2), random.IntN(9)-4, random.IntN(7)))...)
			}
		}
		w := api.Window{From: 1 + random.IntN(9)}
		w.To = w.From + random.IntN(5)
		positions := [][]string{nil, {"df"}, {"gk"}, {"df", "gk"}}[random.IntN(4)]
		hundredths := 0
		for _, x := range l {
			p, e := Points(r, positions, x)
			equal(t, "Points", e, api.OK)
			if w.From <= x.Week && x.Week < w.To {
				hundredths += p.Num * 100 / p.Den
			}
		}
		p, e := Total(r, positions, l, w)
		equal(t, "Total", e, api.OK)
		equal(t, "Total", p.Num*100, hundredths*p.Den)
		equal(t, "lowest terms", CheckRules([]api.Rule{{Key: "a", Stat: "b", Kind: 1, Worth: p}}), api.OK)
	}
}

// P3.2: the errors of Total.
func TestTotalErrors(t *testing.T) {
	fine := api.Window{From: 1, To: 61}
	many := slices.Repeat(did("ann 1"), api.MaxWeeks+1)
	var season []api.Line
	for week := 1; week <= api.MaxWeeks; week++ {
		season = append(season, api.Line{Player: "ann", Week: week})
	}
	for _, x := range []struct {
		name string
		l    []api.Line
		w    api.Window
		want api.Errno
	}{
		{"a season", season, fine, api.OK},
		{"too many lines", many, api.Window{}, api.ErrLarge},
		{"too many lines, one of them wrong", append(slices.Clone(many), did("Ann 1")...), fine, api.ErrName},
		{"the first wrong line first", append(slices.Clone(many), did("ann 0", "Ann 1")...), fine, api.ErrArg},
		{"weeks fall", did("ann 2", "ann 1"), api.Window{}, api.ErrOrder},
		{"a week twice", did("ann 1", "bea 1"), fine, api.ErrOrder},
		{"a wrong line before the order", did("ann 2", "ann 1", "ann 0"), fine, api.ErrArg},
		{"numbers, not digits", did("ann 9", "ann 10"), fine, api.OK},
		{"from 0", season, api.Window{From: 0, To: 5}, api.ErrArg},
		{"from behind to", season, api.Window{From: 6, To: 5}, api.ErrArg},
		{"to too great", season, api.Window{From: 1, To: 62}, api.ErrArg},
		{"behind the last week", season, api.Window{From: 62, To: 62}, api.ErrArg},
		{"nothing", season, api.Window{}, api.ErrArg},
		{"any ints", season, api.Window{From: math.MinInt, To: math.MaxInt}, api.ErrArg},
		{"any ints, turned round", season, api.Window{From: math.MaxInt, To: math.MinInt}, api.ErrArg},
		{"greatest ints", season, api.Window{From: math.MaxInt, To: math.MaxInt}, api.ErrArg},
		{"an empty window", season, api.Window{From: 61, To: 61}, api.OK},
	} {
		p, e := Total(rules("a goal - none 0 1"), nil, x.l, x.w)
		equal(t, x.name, e, x.want)
		if e != api.OK {
			equal(t, x.name, p, api.Fraction{})
		}
	}
}
