package player

import (
	"fmt"
	"math"
	"reflect"
	"slices"
	"strings"
	"sync"
	"testing"

	"benchwarmer/api"
)

// input has an argument for each part of the functions' arguments.
type input struct {
	p                           []api.Player
	l                           []api.Stint
	h                           []api.Health
	f                           []api.Fixture
	a                           []api.Appear
	who, club, position, s, txt string
	week, at, least             int
}

func right() input {
	return input{
		p:   people("ann df,gk Ann Lee", "bob df Bob Lee", "cat st Cat"),
		l:   []api.Stint{stint("ann", "red", 1), stint("bob", "blue", 1), stint("cat", "red", 2)},
		h:   []api.Health{health("bob", 1, 2, api.HealthDoubt), health("cat", 2, 3, api.HealthOut)},
		f:   []api.Fixture{fixture(1, 5, "blue", "red"), fixture(2, 6, "red", "pink"), fixture(2, 7, "lime", "blue")},
		a:   []api.Appear{appear("ann", "lw", 1), appear("bob", "rw", 1), appear("bob", "rw", 2)},
		who: "ann", club: "red", position: "df", s: "lee", txt: "ann df,gk Ann Lee\nbob df Bob Lee\n",
		week: 1, at: 4, least: 1,
	}
}

// spoiled makes a part wrong, and says with which error.
func spoiled(part string, x *input) api.Errno {
	switch part {
	case "players":
		x.p = people("ann gk  Ann")
		return api.ErrForm
	case "stints":
		x.l = make([]api.Stint, api.MaxStints+1)
		return api.ErrLarge
	case "health":
		x.h = []api.Health{health("ann", 1, 2, api.HealthOut), health("ann", 1, 3, 9)}
		return api.ErrKind
	case "fixtures":
		x.f = []api.Fixture{fixture(1, 1, "red", "red")}
		return api.ErrTwice
	case "appears":
		x.a = []api.Appear{appear("ann", "lw", 2), appear("ann", "lw", 1)}
		return api.ErrOrder
	case "who":
		x.who = "nobody"
		return api.ErrNone
	case "club":
		x.club = ""
		return api.ErrName
	case "position":
		x.position = "Df"
		return api.ErrName
	case "s":
		x.s = ""
		return api.ErrForm
	case "txt":
		x.txt = "ann df\n"
		return api.ErrSyntax
	case "week":
		x.week = 0
	case "at":
		x.at = -1
	case "least":
		x.least = 0
	}
	return api.ErrArg
}

// function is a function of the chapter: call returns its results, the error last; order is in which order parts are asked for.
type function struct {
	name, order string
	call        func(x input) []any
}

// made puts results into a list; the error of a Check is alone.
func made(results ...any) []any { return results }

func functions() []function {
	return []function{
		{"CheckPlayers", "players", func(x input) []any { return made(CheckPlayers(x.p)) }},
		{"CheckStints", "players stints", func(x input) []any { return made(CheckStints(x.p, x.l)) }},
		{"ClubIn", "players stints who week", func(x input) []any { return made(ClubIn(x.p, x.l, x.who, x.week)) }},
		{"Squad", "players stints club week", func(x input) []any { return made(Squad(x.p, x.l, x.club, x.week)) }},
		{"CheckHealth", "players health", func(x input) []any { return made(CheckHealth(x.p, x.h)) }},
		{"StateIn", "players health who week", func(x input) []any { return made(StateIn(x.p, x.h, x.who, x.week)) }},
		{"CheckFixtures", "fixtures", func(x input) []any { return made(CheckFixtures(x.f)) }},
		{"Games", "fixtures club week", func(x input) []any { return made(Games(x.f, x.club, x.week)) }},
		{"Idle", "fixtures week", func(x input) []any { return made(Idle(x.f, x.week)) }},
		{"First", "players stints fixtures who week", func(x input) []any { return made(First(x.p, x.l, x.f, x.who, x.week)) }},
		{"Fieldable", "players stints health fixtures week at", func(x input) []any { return made(Fieldable(x.p, x.l, x.h, x.f, x.week, x.at)) }},
		{"CheckAppears", "players appears", func(x input) []any { return made(CheckAppears(x.p, x.a)) }},
		{"Grown", "players appears least week", func(x input) []any { return made(Grown(x.p, x.a, x.least, x.week)) }},
		{"In", "players position", func(x input) []any { return made(In(x.p, x.position)) }},
		{"Find", "players s", func(x input) []any { return made(Find(x.p, x.s)) }},
		{"Text", "players", func(x input) []any { return made(Text(x.p)) }},
		{"Read", "txt", func(x input) []any { return made(Read(x.txt)) }},
	}
}

// Z3 and Z4: errors come in their order, and with them all other results are zero values.
func TestErrorsInOrder(t *testing.T) {
	for _, f := range functions() {
		parts := split(f.order)
		for i := range parts {
			x := right()
			var want api.Errno
			for _, part := range slices.Backward(parts[i:]) {
				want = spoiled(part, &x)
			}
			results := f.call(x)
			last := len(results) - 1
			if results[last] != want {
				t.Errorf("%s with wrong %v: got %v, want %v", f.name, parts[i:], results[last], want)
			}
			for _, r := range results[:last] {
				if v := reflect.ValueOf(r); !v.IsZero() && !(v.Kind() == reflect.Slice && v.Len() == 0) {
					t.Errorf("%s with wrong %v: got %v beside the error", f.name, parts[i:], r)
				}
			}
		}
		results := f.call(right())
		if e := results[len(results)-1]; e != api.OK {
			t.Errorf("%s with nothing wrong: got %v", f.name, e)
		}
	}
}

// behind puts junk into the memory of a list after its length.
func behind[T any](l []T, junk T) []T {
	return append(slices.Clone(l), junk, junk)[:len(l)]
}

// junked is an input that has junk in the memory after each list.
func junked() input {
	x := right()
	for i := range x.p {
		x.p[i].Positions = behind(x.p[i].Positions, "zz")
	}
	x.p = behind(x.p, api.Player{Key: "zed"})
	x.l = behind(x.l, stint("zed", "red", 1))
	x.h = behind(x.h, health("zed", 1, 2, 3))
	x.f = behind(x.f, fixture(1, 0, "red", "blue"))
	x.a = behind(x.a, appear("zed", "gk", 1))
	return x
}

// written writes an input with all that is in its memory, also after the length of its lists.
func written(x input) string {
	var b strings.Builder
	for _, p := range x.p[:cap(x.p)] {
		fmt.Fprintf(&b, "%q %q\n", p, p.Positions[:cap(p.Positions)])
	}
	fmt.Fprintf(&b, "%+v\n%+v\n%+v\n%+v\n", x.l[:cap(x.l)], x.h[:cap(x.h)], x.f[:cap(x.f)], x.a[:cap(x.a)])
	return b.String()
}

// scribble changes all that results have in their memory.
func scribble(results []any) {
	for _, r := range results {
		switch l := r.(type) {
		case []string:
			for i := range l[:cap(l)] {
				l[:cap(l)][i] = "scribble"
			}
		case []api.Fixture:
			for i := range l[:cap(l)] {
				l[:cap(l)][i] = fixture(9, 9, "scribble", "scribble")
			}
		case []api.Player:
			for i := range l {
				scribble([]any{l[i].Positions})
				l[i] = api.Player{Key: "scribble"}
			}
		}
	}
}

// Z2: arguments are neither modified nor kept, results are new memory, and what is after a list's length is not looked at.
func TestMemory(t *testing.T) {
	for _, f := range functions() {
		want := fmt.Sprint(f.call(right()))
		x := junked()
		before := written(x)
		results := f.call(x)
		equal(t, f.name+" with junk behind lists", fmt.Sprint(results), want)
		scribble(results)
		equal(t, f.name+": its arguments", written(x), before)
		equal(t, f.name+" after its results were changed", fmt.Sprint(f.call(x)), want)
	}
}

// Z2: the players of one result share no memory with each other.
func TestPlayersShareNothing(t *testing.T) {
	for _, f := range functions() {
		p, ok := f.call(right())[0].([]api.Player)
		for i := range p {
			p[i].Positions = append(p[i].Positions, "scribble")
			scribble([]any{p[i].Positions})
			if i+1 < len(p) && slices.Contains(p[i+1].Positions[:cap(p[i+1].Positions)], "scribble") {
				t.Errorf("%s: players %d and %d share memory", f.name, i, i+1)
			}
		}
		equal(t, f.name+" returns players", ok && len(p) > 1, f.name == "Grown" || f.name == "Read")
	}
}

// Z5: an empty and a nil list are the same.
func TestEmptyLists(t *testing.T) {
	empty := right()
	empty.p, empty.l, empty.h, empty.f, empty.a, empty.txt = []api.Player{}, []api.Stint{}, []api.Health{}, []api.Fixture{}, []api.Appear{}, ""
	none := right()
	none.p, none.l, none.h, none.f, none.a, none.txt = nil, nil, nil, nil, nil, ""
	for _, f := range functions() {
		results := f.call(none)
		equal(t, f.name, fmt.Sprint(f.call(empty)), fmt.Sprint(results))
		want := api.OK
		if strings.Contains(f.order, "who") {
			want = api.ErrNone
		}
		equal(t, f.name, results[len(results)-1].(api.Errno), want)
	}
	equal(t, "no positions", CheckPlayers([]api.Player{{Key: "a", Name: "A", Positions: []string{}}}), api.ErrNone)
}

// Z1 and Z6: every call returns, whatever its numbers and however large its arguments are.
func TestAnyArguments(t *testing.T) {
	many, long := 200_000, strings.Repeat("a", 200_000)
	var all []input
	for _, n := range []int{math.MinInt, -1, 0, 1, math.MaxInt} {
		x := right()
		x.week, x.at, x.least = n, n, n
		x.l[1].Week, x.h[1].From, x.h[0].To, x.f[1].At, x.a[1].Week = n, n, n, n, n
		all = append(all, x)
		x = right()
		x.week, x.at, x.least = n, n, n
		all = append(all, x)
	}
	x := right()
	x.who, x.club, x.position, x.s, x.txt = long, long, long, long, long
	all = append(all, x)
	for _, text := range []string{" ", ",", "\n", "a b\n", "a b \n", "\xff"} {
		x := right()
		x.s, x.txt = text, strings.Repeat(text, many/len(text))
		all = append(all, x)
	}
	x.p, x.l, x.h, x.f, x.a = make([]api.Player, many), make([]api.Stint, many), make([]api.Health, many), make([]api.Fixture, many), make([]api.Appear, many)
	all = append(all, x, input{p: []api.Player{{Key: "a", Name: "A", Positions: make([]string, many)}}})
	for _, x := range all {
		for _, f := range functions() {
			first := fmt.Sprint(f.call(x))
			equal(t, f.name, fmt.Sprint(f.call(x)), first)
		}
	}
}

// Z1 and Z7: any number of goroutines can call at once, and the same arguments give the same results.
func TestSameResults(t *testing.T) {
	x := right()
	for i := range 100 {
		x.f = append(x.f, fixture(3, i, "club"+number(i), "other"))
	}
	for _, f := range functions() {
		want := fmt.Sprint(f.call(x))
		results := make([]string, 50)
		var all sync.WaitGroup
		for i := range results {
			all.Go(func() { results[i] = fmt.Sprint(f.call(x)) })
		}
		all.Wait()
		for _, got := range results {
			equal(t, f.name, got, want)
		}
	}
}

// Z9: strings are compared byte by byte, also where players, clubs and positions are found.
func TestBytes(t *testing.T) {
	p := people("a- x-,x0,x_,xx A", "a0 gk A", "a_ gk A", "aa gk A")
	l := []api.Stint{stint("a-", "c_", 1), stint("a0", "c-", 1), stint("a_", "c0", 1), stint("aa", "cc", 1)}
	f := []api.Fixture{fixture(1, 1, "c_", "c0"), fixture(1, 1, "cc", "c-")}
	idle, e := Idle(f, 2)
	equal(t, "Idle", e, api.OK)
	list(t, "Idle", idle, split("c- c0 c_ cc"))
	who, e := Fieldable(p, l, nil, f, 1, 0)
	equal(t, "Fieldable", e, api.OK)
	list(t, "Fieldable", who, split("a- a0 a_ aa"))
	_, e = Find(p, "A")
	equal(t, "Find", e, api.OK)
}
