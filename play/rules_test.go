package play

import (
	"fmt"
	"math"
	"reflect"
	"slices"
	"strings"
	"sync"
	"testing"

	"benchwarmer/api"
)

// input has an argument for each part of the functions' arguments.
type input struct {
	l, more             []api.Play
	trust               []string
	m, other            []api.Mend
	lines, second       []api.Line
	match, player, stat string
	week, at, to        int
	txt                 string
}

func right() input {
	return input{
		l:      plays("fa 1 10 1 ma ann goal 1", "fa 2 10 1 ma ann pass 2", "fa 3 10 1 ma bea goal 1", "fa 4 10 1 ma bea goal 0 3", "fa 5 80 1 ma bea goal 6", "fa 6 10 1 ma bea foul 1", "fb 1 10 1 ma ann goal 2", "fb 2 20 2 mb bea goal 1"),
		more:   plays("fa 1 10 1 ma ann goal 1", "fa 7 10 1 ma ann goal 1", "fc 2 20 2 mb bea goal 1"),
		trust:  []string{"fa", "fb"},
		m:      mends("ann 1 goal 3 90 1 boss", "ann 1 pass 0 20 1 boss", "cat 2 goal 3 20 1 boss"),
		other:  mends("ann 1 goal 2 90 2 boss", "bea 1 pass 0 20 1 boss"),
		lines:  told("ann 1 goal:1 pass:2", "ann 2 goal:1", "bea 1 goal:3"),
		second: told("ann 1 goal:2 pass:2", "bea 2 goal:3"),
		match:  "ma", player: "ann", stat: "goal",
		week: 1, at: 30, to: 95,
		txt: "fa 1 10 1 ma ann goal 1\nfa 3 10 1 ma bea goal 0 2\n",
	}
}

// spoiled makes a part wrong, and says with which error.
func spoiled(part string, x *input) api.Errno {
	switch part {
	case "plays":
		x.l = plays("fa 1 10 1 ma ann goal 1", "fa 2 10 2 ma ann goal 1")
		return api.ErrConflict
	case "more":
		x.more = plays("fa 2 10 1 ma ann goal 1 1")
		return api.ErrForm
	case "trust":
		x.trust = []string{"fa", "fa"}
		return api.ErrTwice
	case "mends":
		x.m = mends("bea 1 goal 3 90 1 boss", "ann 1 goal 0 20 1 boss")
		return api.ErrOrder
	case "other":
		x.other = make([]api.Mend, api.MaxMends+1)
		return api.ErrLarge
	case "lines":
		x.lines = make([]api.Line, api.MaxPlayers*api.MaxWeeks+1)
		return api.ErrLarge
	case "second":
		x.second = told("bea 1 goal:1", "ann 1 goal:1")
		return api.ErrOrder
	case "match":
		x.match = ""
		return api.ErrName
	case "player":
		x.player = "Ann"
		return api.ErrName
	case "stat":
		x.stat = "the goals"
		return api.ErrName
	case "txt":
		x.txt = "fa 1\n"
		return api.ErrSyntax
	case "week":
		x.week = 0
	case "at":
		x.at = -1
	case "to":
		x.to = x.at - 1
	}
	return api.ErrArg
}

// function is a function of the chapter: call returns its results, the error last; order is in which order parts are asked for.
type function struct {
	name, order string
	call        func(x input) []any
}

// made puts results into a list; the error of a Check is alone.
func made(results ...any) []any { return results }

func functions() []function {
	return []function{
		{"CheckPlays", "plays", func(x input) []any { return made(CheckPlays(x.l)) }},
		{"Merge", "plays more", func(x input) []any { return made(Merge(x.l, x.more)) }},
		{"Lacks", "plays more", func(x input) []any { return made(Lacks(x.l, x.more)) }},
		{"Undone", "plays", func(x input) []any { return made(Undone(x.l)) }},
		{"CheckTrust", "trust", func(x input) []any { return made(CheckTrust(x.trust)) }},
		{"Told", "plays trust at", func(x input) []any { return made(Told(x.l, x.trust, x.at)) }},
		{"Lines", "plays trust week at", func(x input) []any { return made(Lines(x.l, x.trust, x.week, x.at)) }},
		{"Disagree", "plays match at", func(x input) []any { return made(Disagree(x.l, x.match, x.at)) }},
		{"CheckMends", "mends", func(x input) []any { return made(CheckMends(x.m)) }},
		{"MergeMends", "mends other", func(x input) []any { return made(MergeMends(x.m, x.other)) }},
		{"Mended", "lines mends at", func(x input) []any { return made(Mended(x.lines, x.m, x.at)) }},
		{"CheckLines", "lines", func(x input) []any { return made(CheckLines(x.lines)) }},
		{"Differ", "lines second", func(x input) []any { return made(Differ(x.lines, x.second)) }},
		{"Count", "lines player week stat", func(x input) []any { return made(Count(x.lines, x.player, x.week, x.stat)) }},
		{"Sums", "lines", func(x input) []any { return made(Sums(x.lines)) }},
		{"Since", "plays trust mends week at to", func(x input) []any { return made(Since(x.l, x.trust, x.m, x.week, x.at, x.to)) }},
		{"Text", "plays", func(x input) []any { return made(Text(x.l)) }},
		{"Read", "txt", func(x input) []any { return made(Read(x.txt)) }},
	}
}

// Z3 and Z4: errors come in their order, and with them all other results are zero values.
func TestErrorsInOrder(t *testing.T) {
	for _, f := range functions() {
		parts := strings.Fields(f.order)
		for i := range parts {
			x := right()
			var want api.Errno
			for _, part := range slices.Backward(parts[i:]) {
				want = spoiled(part, &x)
			}
			results := f.call(x)
			last := len(results) - 1
			if results[last] != want {
				t.Errorf("%s with wrong %v: got %v, want %v", f.name, parts[i:], results[last], want)
			}
			for _, r := range results[:last] {
				if v := reflect.ValueOf(r); !v.IsZero() && !(v.Kind() == reflect.Slice && v.Len() == 0) {
					t.Errorf("%s with wrong %v: got %v beside the error", f.name, parts[i:], r)
				}
			}
		}
		results := f.call(right())
		last := len(results) - 1
		if results[last] != api.OK {
			t.Errorf("%s with nothing wrong: got %v", f.name, results[last])
		}
		if last > 0 && reflect.ValueOf(results[0]).IsZero() {
			t.Errorf("%s with nothing wrong: got nothing", f.name)
		}
	}
}

// behind puts junk into the memory of a list after its length.
func behind[T any](l []T, junk T) []T {
	return append(slices.Clone(l), junk, junk)[:len(l)]
}

// junked is an input that has junk in the memory after each list.
func junked() input {
	x := right()
	x.l, x.more = behind(x.l, api.Play{Source: "z"}), behind(x.more, api.Play{Source: "z"})
	x.trust = behind(x.trust, "fa")
	x.m, x.other = behind(x.m, api.Mend{Player: "z"}), behind(x.other, api.Mend{Player: "z"})
	for _, l := range []*[]api.Line{&x.lines, &x.second} {
		for i := range *l {
			(*l)[i].Stats = behind((*l)[i].Stats, api.Stat{Name: "z"})
		}
		*l = behind(*l, api.Line{Player: "z"})
	}
	return x
}

// written writes an input with all that is in its memory, also after the length of its lists.
func written(x input) string {
	var b strings.Builder
	for _, l := range [][]api.Line{x.lines, x.second} {
		for _, line := range l[:cap(l)] {
			fmt.Fprintf(&b, "%+v %+v\n", line, line.Stats[:cap(line.Stats)])
		}
	}
	fmt.Fprintf(&b, "%+v\n%+v\n%+v\n%+v\n%+v\n", x.l[:cap(x.l)], x.more[:cap(x.more)], x.trust[:cap(x.trust)], x.m[:cap(x.m)], x.other[:cap(x.other)])
	return b.String()
}

// fill puts a value at all places of a list's memory.
func fill[T any](l []T, x T) {
	for i := range l[:cap(l)] {
		l[:cap(l)][i] = x
	}
}

// scribble changes all that results have in their memory.
func scribble(results []any) {
	for _, r := range results {
		switch l := r.(type) {
		case []int:
			fill(l, 99)
		case []api.Play:
			fill(l, api.Play{Source: "scribble"})
		case []api.Mend:
			fill(l, api.Mend{Player: "scribble"})
		case []api.Pair:
			fill(l, api.Pair{Name: "scribble"})
		case []api.Turned:
			fill(l, api.Turned{Player: "scribble"})
		case []api.Apart:
			fill(l, api.Apart{Match: "scribble"})
		case []api.Line:
			for _, line := range l {
				fill(line.Stats, api.Stat{Name: "scribble"})
			}
			fill(l, api.Line{Player: "scribble"})
		}
	}
}

// Z2: arguments are neither modified nor kept, results are new memory, and what is after a list's length is not looked at.
func TestMemory(t *testing.T) {
	for _, f := range functions() {
		want := fmt.Sprint(f.call(right()))
		x := junked()
		before := written(x)
		results := f.call(x)
		equal(t, f.name+" with junk behind lists", fmt.Sprint(results), want)
		scribble(results)
		equal(t, f.name+": its arguments", written(x), before)
		equal(t, f.name+" after its results were changed", fmt.Sprint(f.call(x)), want)
	}
}

// Z2: the lines of one result share no memory with each other.
func TestLinesShareNothing(t *testing.T) {
	for _, f := range functions() {
		l, ok := f.call(right())[0].([]api.Line)
		want := shown(l)
		for i := range l {
			l[i].Stats = append(l[i].Stats, api.Stat{Name: "scribble"})[:len(l[i].Stats)]
			equal(t, f.name, shown(l), want)
		}
		equal(t, f.name+" returns lines", ok && len(l) > 1, slices.Contains([]string{"Lines", "Mended", "Sums"}, f.name))
	}
}

// Z5: an empty and a nil list are the same.
func TestEmptyLists(t *testing.T) {
	empty := input{l: []api.Play{}, more: []api.Play{}, trust: []string{}, m: []api.Mend{}, other: []api.Mend{}, lines: []api.Line{}, second: []api.Line{}, match: "ma", player: "ann", stat: "goal", week: 1}
	none := input{match: "ma", player: "ann", stat: "goal", week: 1}
	for _, f := range functions() {
		results := f.call(none)
		equal(t, f.name, fmt.Sprint(f.call(empty)), fmt.Sprint(results))
		equal(t, f.name, results[len(results)-1].(api.Errno), api.OK)
	}
	equal(t, "no statistics", CheckLines([]api.Line{{Player: "ann", Week: 1, Stats: []api.Stat{}}}), api.OK)
}

// Z1 and Z6: every call returns, whatever its numbers and however large its arguments are.
func TestAnyArguments(t *testing.T) {
	many, long := 200_000, strings.Repeat("a", 200_000)
	var all []input
	for _, n := range []int{math.MinInt, -1, 0, 1, math.MaxInt} {
		x := right()
		x.week, x.at, x.to = n, n, n
		all = append(all, x)
		for field := range 5 {
			x := right()
			*[]*int{&x.l[1].No, &x.l[1].At, &x.l[1].Week, &x.l[1].Count, &x.l[3].Undo}[field] = n
			*[]*int{&x.m[1].Week, &x.m[1].Count, &x.m[1].At, &x.m[1].Version, &x.lines[1].Week}[field] = n
			x.lines[2].Stats[0].Count = n
			all = append(all, x)
		}
	}
	x := right()
	x.match, x.player, x.stat, x.txt = long, long, long, long
	all = append(all, x)
	for _, text := range []string{" ", "\n", "fa 1 1 1 ma ann goal 1\n", "\xff"} {
		x := right()
		x.match, x.player, x.stat, x.txt = text, text, text, strings.Repeat(text, many/len(text))
		all = append(all, x)
	}
	x.l, x.more, x.trust, x.m, x.other = make([]api.Play, many), make([]api.Play, many), make([]string, many), make([]api.Mend, many), make([]api.Mend, many)
	x.lines, x.second = make([]api.Line, many), []api.Line{{Player: "ann", Week: 1, Stats: make([]api.Stat, many)}}
	all = append(all, x, input{lines: x.second})
	for _, x := range all {
		for _, f := range functions() {
			first := fmt.Sprint(f.call(x))
			equal(t, f.name, fmt.Sprint(f.call(x)), first)
		}
	}
}

// Z1 and Z7: any number of goroutines can call at once, and the same arguments give the same results.
func TestSameResults(t *testing.T) {
	x := right()
	for i := range 30 {
		x.l = append(x.l, api.Play{Source: "fc", No: 1 + i, Week: 1, Match: key(i), Player: key(i % 7), Stat: key(i % 5), Count: i})
		x.lines = append(x.lines, api.Line{Player: key(i), Week: 1, Stats: manyStats(10)})
	}
	x.trust = append(x.trust, "fc")
	for _, f := range functions() {
		want := fmt.Sprint(f.call(x))
		results := make([]string, 50)
		var all sync.WaitGroup
		for i := range results {
			all.Go(func() { results[i] = fmt.Sprint(f.call(x)) })
		}
		all.Wait()
		for _, got := range results {
			equal(t, f.name, got, want)
		}
	}
}

// Z9: strings are compared byte by byte, also where matches, players, statistics and sources are put in order.
func TestBytes(t *testing.T) {
	keys := strings.Fields("k k- k0 k_ ka")
	var l []api.Play
	for many, source := range keys[:2] {
		for _, k := range slices.Backward(keys) {
			for _, stat := range slices.Backward(keys) {
				l = append(l, api.Play{Source: source, No: len(l) + 1, Week: 1, Match: k, Player: k, Stat: stat, Count: 1 + many})
			}
		}
	}
	var all, pairs, apart []string
	for _, k := range keys {
		all = append(all, k+" 1 k:2 k-:2 k0:2 k_:2 ka:2")
		pairs = append(pairs, k+" k-")
		apart = append(apart, "k_ k_ "+k+" k:1 k-:2")
	}
	lined(t, "Lines", l, "k- k", 1, 0, strings.Join(all, ", "))
	told, e := Told(l, []string{"k-", "k"}, 0)
	equal(t, "Told", e, api.OK)
	equal(t, "Told", named(told), strings.Join(pairs, ", "))
	disagree, e := Disagree(l, "k_", 0)
	equal(t, "Disagree", e, api.OK)
	equal(t, "Disagree", gaps(disagree), strings.Join(apart, ", "))
}
