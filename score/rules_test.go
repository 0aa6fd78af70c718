package score

import (
	"fmt"
	"math"
	"reflect"
	"slices"
	"strings"
	"sync"
	"testing"

	"benchwarmer/api"
)

// input has an argument for each part of the functions' arguments.
type input struct {
	r            []api.Rule
	positions    []string
	line         api.Line
	lines        []api.Line
	w            api.Window
	s            []api.Slot
	l            []api.Scorer
	f            []api.Fill
	captain, txt string
	bench, who   []string
}

// right is an input with which nothing is wrong; nobody suits its last slot.
func right() input {
	g := team()
	g.s = append(g.s, slots("s4 lb")...)
	return input{
		r:         rules("a yard - each 0 1/25", "b yard - from 100 3", "c goal gk none 0 4"),
		positions: names("df,gk"),
		line:      did("ann 1 save:1 yard:110")[0],
		lines:     did("ann 1 save:1 yard:110", "ann 2 goal:1 yard:70"),
		w:         api.Window{From: 1, To: 3},
		s:         g.s,
		l:         g.l,
		f:         fills(g.s, "ann cat - -"),
		captain:   "ann",
		bench:     names("bea,dot"),
		who:       names("ann,bea"),
		txt:       "a yard - each 0 1/25\nb yard gk from 100 3/1\n",
	}
}

// spoiled makes a part wrong, and says with which error.
func spoiled(part string, x *input) api.Errno {
	switch part {
	case "rules":
		x.r = rules("a yard - each 0 2/4")
		return api.ErrForm
	case "positions":
		x.positions = names("gk,df")
		return api.ErrOrder
	case "line":
		x.line.Player = "Ann"
		return api.ErrName
	case "lines":
		x.lines = append(slices.Repeat(did("ann 1"), api.MaxWeeks+1), did("Ann 1")...)
		return api.ErrName
	case "weeks":
		if len(x.lines) < api.MaxWeeks {
			x.lines = slices.Repeat(did("ann 1"), api.MaxWeeks+1)
		}
		return api.ErrLarge
	case "slots":
		x.s = nil
		return api.ErrNone
	case "scorers":
		x.l = scorers("b gk 1", "a gk 1")
		return api.ErrOrder
	case "fills":
		x.f = nil
		return api.ErrForm
	case "captain":
		x.captain = "eve"
		return api.ErrNone
	case "bench":
		x.bench = names("bea,ann")
		return api.ErrConflict
	case "who":
		x.who = names("ann,ann")
		return api.ErrTwice
	case "txt":
		x.txt = "a yard\n"
		return api.ErrSyntax
	}
	x.w.From = 0
	return api.ErrArg
}

// function is a function of the chapter: call returns its results, the error last; order is in which order parts are asked for.
type function struct {
	name, order string
	call        func(x input) []any
}

// made puts results into a list; the error of a Check is alone.
func made(results ...any) []any { return results }

func functions() []function {
	return []function{
		{"CheckLine", "line", func(x input) []any { return made(CheckLine(x.line)) }},
		{"CheckRules", "rules", func(x input) []any { return made(CheckRules(x.r)) }},
		{"Points", "rules positions line", func(x input) []any { return made(Points(x.r, x.positions, x.line)) }},
		{"Parts", "rules positions line", func(x input) []any { return made(Parts(x.r, x.positions, x.line)) }},
		{"Total", "rules positions lines weeks window", func(x input) []any { return made(Total(x.r, x.positions, x.lines, x.w)) }},
		{"CheckSlots", "slots", func(x input) []any { return made(CheckSlots(x.s)) }},
		{"CheckScorers", "scorers", func(x input) []any { return made(CheckScorers(x.l)) }},
		{"CheckFills", "slots scorers fills", func(x input) []any { return made(CheckFills(x.s, x.l, x.f)) }},
		{"Sum", "slots scorers fills captain", func(x input) []any { return made(Sum(x.s, x.l, x.f, x.captain)) }},
		{"Best", "slots scorers", func(x input) []any { return made(Best(x.s, x.l)) }},
		{"Left", "slots scorers fills", func(x input) []any { return made(Left(x.s, x.l, x.f)) }},
		{"Bench", "slots scorers fills", func(x input) []any { return made(Bench(x.s, x.l, x.f)) }},
		{"Subbed", "slots scorers fills bench", func(x input) []any { return made(Subbed(x.s, x.l, x.f, x.bench)) }},
		{"Can", "slots scorers who", func(x input) []any { return made(Can(x.s, x.l, x.who)) }},
		{"Lacking", "slots scorers", func(x input) []any { return made(Lacking(x.s, x.l)) }},
		{"Text", "rules", func(x input) []any { return made(Text(x.r)) }},
		{"Read", "txt", func(x input) []any { return made(Read(x.txt)) }},
	}
}

// Z3 and Z4: errors come in their order, and with them all other results are zero values.
func TestErrorsInOrder(t *testing.T) {
	for _, f := range functions() {
		parts := strings.Fields(f.order)
		for i := range parts {
			x := right()
			var want api.Errno
			for _, part := range slices.Backward(parts[i:]) {
				want = spoiled(part, &x)
			}
			results := f.call(x)
			last := len(results) - 1
			if results[last] != want {
				t.Errorf("%s with wrong %v: got %v, want %v", f.name, parts[i:], results[last], want)
			}
			for _, r := range results[:last] {
				if v := reflect.ValueOf(r); !v.IsZero() && !(v.Kind() == reflect.Slice && v.Len() == 0) {
					t.Errorf("%s with wrong %v: got %v beside the error", f.name, parts[i:], r)
				}
			}
		}
		results := f.call(right())
		last := len(results) - 1
		if results[last] != api.OK {
			t.Errorf("%s with nothing wrong: got %v", f.name, results[last])
		}
		if last > 0 && reflect.ValueOf(results[0]).IsZero() {
			t.Errorf("%s with nothing wrong: got nothing", f.name)
		}
	}
}

// behind puts junk into the memory of a list after its length.
func behind[T any](l []T, junk T) []T {
	return append(slices.Clone(l), junk, junk)[:len(l)]
}

// junked is an input that has junk in the memory after each list.
func junked() input {
	x := right()
	for i := range x.s {
		x.s[i].Positions = behind(x.s[i].Positions, "gk")
	}
	for i := range x.l {
		x.l[i].Positions = behind(x.l[i].Positions, "df")
	}
	for i := range x.lines {
		x.lines[i].Stats = behind(x.lines[i].Stats, api.Stat{Name: "yard", Count: 9})
	}
	x.line.Stats = behind(x.line.Stats, api.Stat{Name: "goal", Count: 9})
	x.r, x.positions, x.lines = behind(x.r, rules("z yard - each 0 1")[0]), behind(x.positions, "mf"), behind(x.lines, did("ann 3 yard:1")[0])
	x.s, x.l, x.f = behind(x.s, slots("z gk")[0]), behind(x.l, scorers("zoe df 9")[0]), behind(x.f, api.Fill{Slot: "z", Player: "eve"})
	x.bench, x.who = behind(x.bench, "eve"), behind(x.who, "eve")
	return x
}

// written writes an input with all that is in its memory, also after the length of its lists.
func written(x input) string {
	var b strings.Builder
	for _, line := range append(slices.Clone(x.lines[:cap(x.lines)]), x.line) {
		fmt.Fprintf(&b, "%+v %+v\n", line, line.Stats[:cap(line.Stats)])
	}
	for _, slot := range x.s[:cap(x.s)] {
		fmt.Fprintf(&b, "%+v %q\n", slot, slot.Positions[:cap(slot.Positions)])
	}
	for _, one := range x.l[:cap(x.l)] {
		fmt.Fprintf(&b, "%+v %q\n", one, one.Positions[:cap(one.Positions)])
	}
	fmt.Fprintf(&b, "%+v\n%q\n%+v\n%q\n%q\n", x.r[:cap(x.r)], x.positions[:cap(x.positions)], x.f[:cap(x.f)], x.bench[:cap(x.bench)], x.who[:cap(x.who)])
	return b.String()
}

// fill puts a value at all places of a list's memory.
func fill[T any](l []T, x T) {
	for i := range l[:cap(l)] {
		l[:cap(l)][i] = x
	}
}

// scribble changes all that results have in their memory.
func scribble(results []any) {
	for _, r := range results {
		switch l := r.(type) {
		case []string:
			fill(l, "scribble")
		case []api.Pair:
			fill(l, api.Pair{Name: "scribble"})
		case []api.Fill:
			fill(l, api.Fill{Slot: "scribble"})
		case []api.Rule:
			fill(l, api.Rule{Key: "scribble"})
		}
	}
}

// Z2: arguments are neither modified nor kept, results are new memory, and what is after a list's length is not looked at.
func TestMemory(t *testing.T) {
	for _, f := range functions() {
		want := fmt.Sprint(f.call(right()))
		x := junked()
		before := written(x)
		results := f.call(x)
		equal(t, f.name+" with junk behind lists", fmt.Sprint(results), want)
		scribble(results)
		equal(t, f.name+": its arguments", written(x), before)
		equal(t, f.name+" after its results were changed", fmt.Sprint(f.call(x)), want)
	}
}

// Z5: an empty and a nil list are the same.
func TestEmptyLists(t *testing.T) {
	line := did("ann 1")[0]
	none := input{line: line, w: api.Window{From: 1, To: 1}}
	line.Stats = []api.Stat{}
	empty := input{line: line, w: none.w, r: []api.Rule{}, positions: []string{}, lines: []api.Line{}, s: []api.Slot{}, l: []api.Scorer{}, f: []api.Fill{}, bench: []string{}, who: []string{}}
	for _, s := range [][]api.Slot{nil, slots("a gk")} {
		if s != nil {
			none.s, empty.s = s, s
			none.f = fills(s, "-")
			empty.f = none.f
		}
		for _, f := range functions() {
			results := f.call(none)
			equal(t, f.name, fmt.Sprint(f.call(empty)), fmt.Sprint(results))
			want := api.OK
			if s == nil && strings.HasPrefix(f.order, "slots") {
				want = api.ErrNone
			}
			equal(t, f.name, results[len(results)-1].(api.Errno), want)
		}
	}
	equal(t, "no positions", CheckSlots([]api.Slot{{Key: "a", Positions: []string{}}}), api.ErrNone)
	equal(t, "no positions", CheckScorers([]api.Scorer{{Player: "a", Positions: []string{}}}), api.ErrNone)
}

// Z1 and Z6: every call returns, whatever its numbers and however large its arguments are.
func TestAnyArguments(t *testing.T) {
	many, long := 200_000, strings.Repeat("a", 200_000)
	var all []input
	for _, n := range []int{math.MinInt, -1, 0, 1, math.MaxInt} {
		for field := range 6 {
			x := right()
			*[]*int{&x.r[1].Kind, &x.r[1].Many, &x.r[1].Worth.Num, &x.r[1].Worth.Den, &x.w.From, &x.w.To}[field] = n
			*[]*int{&x.line.Week, &x.line.Stats[1].Count, &x.lines[1].Week, &x.lines[1].Stats[1].Count, &x.l[0].Points.Num, &x.l[0].Points.Den}[field] = n
			all = append(all, x)
		}
		x := right()
		x.r[1].Worth, x.l[0].Points, x.w = api.Fraction{Num: n, Den: n}, api.Fraction{Num: n, Den: n}, api.Window{From: n, To: n}
		all = append(all, x)
	}
	for _, text := range []string{"", "-", " ", "\n", "\xff", "a yard - each 0 1/25\n", long} {
		x := right()
		x.captain, x.bench[1], x.who[1], x.f[1].Player, x.txt = text, text, text, text, strings.Repeat(text, many/max(len(text), 1))
		all = append(all, x)
	}
	large := input{r: make([]api.Rule, many), positions: make([]string, many), lines: make([]api.Line, many), s: make([]api.Slot, many), l: make([]api.Scorer, many), f: make([]api.Fill, many), bench: make([]string, many), who: make([]string, many), txt: long}
	all = append(all, large)
	for field := range 8 {
		x := right()
		switch field {
		case 0:
			x.r = large.r
		case 1:
			x.positions = large.positions
		case 2:
			x.line.Stats = make([]api.Stat, many)
		case 3:
			x.lines = slices.Repeat(did("ann 1 goal:1 pass:1"), many)
		case 4:
			x.s = large.s
		case 5:
			x.l = large.l
		case 6:
			x.f = large.f
		case 7:
			x.bench, x.who = large.bench, large.who
		}
		all = append(all, x)
	}
	x := right()
	x.s[0].Positions, x.l[0].Positions = make([]string, many), make([]string, many)
	all = append(all, x)
	for _, x := range all {
		for _, f := range functions() {
			first := fmt.Sprint(f.call(x))
			equal(t, f.name, fmt.Sprint(f.call(x)), first)
		}
	}
}

// Z1 and Z7: any number of goroutines can call at once, and the same arguments give the same results.
func TestSameResults(t *testing.T) {
	x := right()
	x.s, x.l = manySlots(api.MaxSlots), manyScorers(api.MaxRoster)
	x.f = make([]api.Fill, api.MaxSlots)
	for i := range x.f {
		x.f[i].Slot = x.s[i].Key
	}
	x.f[5].Player, x.captain, x.bench, x.who = key(3), key(3), keys(3), keys(api.MaxSlots)
	for _, f := range functions() {
		want := fmt.Sprint(f.call(x))
		results := make([]string, 50)
		var all sync.WaitGroup
		for i := range results {
			all.Go(func() { results[i] = fmt.Sprint(f.call(x)) })
		}
		all.Wait()
		for _, got := range results {
			equal(t, f.name, got, want)
		}
	}
}

// Z9: strings are compared byte by byte, also where players, statistics and positions are found.
func TestBytes(t *testing.T) {
	bytes := names("k,k-,k0,k_,ka")
	line := api.Line{Player: "ann", Week: 1}
	var r []api.Rule
	var l []api.Scorer
	for i, k := range bytes {
		line.Stats = append(line.Stats, api.Stat{Name: k, Count: 1 + i})
		r = append(r, api.Rule{Key: k, Stat: k, Position: k, Kind: api.RuleEach, Worth: frac("1")})
		l = append(l, api.Scorer{Player: k, Positions: bytes[i:], Points: frac("1"), Played: true})
	}
	for i, k := range bytes {
		p, e := Points(r, []string{k}, line)
		equal(t, "Points", e, api.OK)
		equal(t, "Points", p, api.Fraction{Num: 1 + i, Den: 1})
		s := []api.Slot{{Key: "s", Positions: []string{k}}}
		best, _, e := Best(s, l)
		equal(t, "Best", e, api.OK)
		equal(t, "Best", best[0].Player, "k")
		for j, who := range bytes {
			can, e := Can(s, l, []string{who})
			equal(t, "Can", e, api.OK)
			equal(t, "Can", can, j <= i)
		}
	}
}
