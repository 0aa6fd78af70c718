package draft

import (
	"fmt"
	"math"
	"reflect"
	"slices"
	"strings"
	"sync"
	"testing"

	"benchwarmer/api"
)

// input has an argument for each part of the functions' arguments.
type input struct {
	r                 api.Room
	k                 []api.Keep
	s                 []api.Swap
	l                 []api.Pick
	w                 []api.Wishes
	at                int
	h                 api.Hall
	sales             []api.Sale
	team, player, txt string
	limits            []api.Pair
}

// right is an input with which nothing is wrong.
func right() input {
	return input{
		r:      room(api.TurnSnake),
		k:      kept(),
		s:      given(),
		l:      picks("0 b p9 150", "2 c p1 200 auto"),
		w:      wishes("b p8 p9", "c p9 p2"),
		at:     2_500,
		h:      hall(),
		sales:  sales("p1 a 6", "p3 b 2"),
		team:   "a",
		player: "p2",
		txt:    "0 a p9 150\n1 b p2 1150 auto\n",
		limits: pairs("b 4", "a 3"),
	}
}

// spoiled makes a part wrong, and says with which error.
func spoiled(part string, x *input) api.Errno {
	switch part {
	case "room":
		x.r.Way = 0
		return api.ErrKind
	case "keeps":
		x.k = keeps("b p5 1", "b p5 2")
		return api.ErrTwice
	case "swaps":
		x.s = swaps("4 a b")
		return api.ErrArg
	case "open":
		x.s = swaps("1 b a")
		return api.ErrConflict
	case "picks":
		x.l = picks("1 b p9 150")
		return api.ErrOrder
	case "wishes":
		x.w = wishes("b p8", "b p9")
		return api.ErrTwice
	case "hall":
		x.h.Budget = 2
		return api.ErrFull
	case "sales":
		x.sales = sales("p1 a 9")
		return api.ErrState
	case "player":
		x.player = "p0"
		return api.ErrNone
	case "team":
		x.team = "c"
		return api.ErrNone
	case "limits":
		x.limits = pairs("a 01")
		return api.ErrSyntax
	case "lines":
		x.l = picks("601 b p9 150")
		return api.ErrArg
	case "txt":
		x.txt = "0 a p9\n"
		return api.ErrSyntax
	}
	x.at = -1
	return api.ErrArg
}

// function is a function of the chapter: call returns its results, the error last; order is in which order parts are asked for.
type function struct {
	name, order string
	call        func(x input) []any
}

// made puts results into a list; the error of a Check is alone.
func made(results ...any) []any { return results }

func functions() []function {
	return []function{
		{"CheckRoom", "room", func(x input) []any { return made(CheckRoom(x.r)) }},
		{"Turns", "room swaps", func(x input) []any { return made(Turns(x.r, x.s)) }},
		{"CheckKeeps", "room keeps", func(x input) []any { return made(CheckKeeps(x.r, x.k)) }},
		{"CheckSwaps", "room swaps", func(x input) []any { return made(CheckSwaps(x.r, x.s)) }},
		{"Open", "room keeps swaps open", func(x input) []any { return made(Open(x.r, x.k, x.s)) }},
		{"CheckPicks", "room keeps swaps open picks", func(x input) []any { return made(CheckPicks(x.r, x.k, x.s, x.l)) }},
		{"Next", "room keeps swaps open picks", func(x input) []any { return made(Next(x.r, x.k, x.s, x.l)) }},
		{"Due", "room keeps swaps open picks", func(x input) []any { return made(Due(x.r, x.k, x.s, x.l)) }},
		{"CheckWishes", "room wishes", func(x input) []any { return made(CheckWishes(x.r, x.w)) }},
		{"Auto", "room keeps swaps open picks wishes moment", func(x input) []any { return made(Auto(x.r, x.k, x.s, x.l, x.w, x.at)) }},
		{"Finish", "room keeps swaps open picks wishes", func(x input) []any { return made(Finish(x.r, x.k, x.s, x.l, x.w)) }},
		{"Left", "room keeps swaps open picks", func(x input) []any { return made(Left(x.r, x.k, x.s, x.l)) }},
		{"Teams", "room keeps swaps open picks", func(x input) []any { return made(Teams(x.r, x.k, x.s, x.l)) }},
		{"Regret", "room keeps swaps open picks wishes", func(x input) []any { return made(Regret(x.r, x.k, x.s, x.l, x.w)) }},
		{"CheckHall", "hall", func(x input) []any { return made(CheckHall(x.h)) }},
		{"CheckSales", "hall sales", func(x input) []any { return made(CheckSales(x.h, x.sales)) }},
		{"MostBid", "hall sales team", func(x input) []any { return made(MostBid(x.h, x.sales, x.team)) }},
		{"Money", "hall sales", func(x input) []any { return made(Money(x.h, x.sales)) }},
		{"Sell", "hall sales player limits", func(x input) []any { return made(Sell(x.h, x.sales, x.player, x.limits)) }},
		{"Text", "lines", func(x input) []any { return made(Text(x.l)) }},
		{"Read", "txt", func(x input) []any { return made(Read(x.txt)) }},
	}
}

// Z3 and Z4: errors come in their order, and with them all other results are zero values.
func TestErrorsInOrder(t *testing.T) {
	for _, f := range functions() {
		parts := strings.Fields(f.order)
		for i := range parts {
			x := right()
			var want api.Errno
			for _, part := range slices.Backward(parts[i:]) {
				want = spoiled(part, &x)
			}
			results := f.call(x)
			last := len(results) - 1
			if results[last] != want {
				t.Errorf("%s with wrong %v: got %v, want %v", f.name, parts[i:], results[last], want)
			}
			for _, r := range results[:last] {
				if v := reflect.ValueOf(r); !v.IsZero() && !(v.Kind() == reflect.Slice && v.Len() == 0) {
					t.Errorf("%s with wrong %v: got %v beside the error", f.name, parts[i:], r)
				}
			}
		}
		results := f.call(right())
		last := len(results) - 1
		if results[last] != api.OK {
			t.Errorf("%s with nothing wrong: got %v", f.name, results[last])
		}
		if last > 0 && reflect.ValueOf(results[0]).IsZero() {
			t.Errorf("%s with nothing wrong: got nothing", f.name)
		}
	}
}

// behind puts junk into the memory of a list after its length.
func behind[T any](l []T, junk T) []T {
	return append(slices.Clone(l), junk, junk)[:len(l)]
}

// junked is an input that has junk in the memory after each list.
func junked() input {
	x := right()
	for i := range x.w {
		x.w[i].Players = behind(x.w[i].Players, "p4")
	}
	x.r.Teams, x.r.Players = behind(x.r.Teams, "d"), behind(x.r.Players, "q1")
	x.k, x.s, x.l, x.w = behind(x.k, keeps("c p7 1")[0]), behind(x.s, swaps("3 c a")[0]), behind(x.l, picks("3 c p2 300")[0]), behind(x.w, wishes("a p7")[0])
	x.h.Teams, x.h.Players = behind(x.h.Teams, "c"), behind(x.h.Players, "p7")
	x.sales, x.limits = behind(x.sales, sales("p4 b 1")[0]), behind(x.limits, pairs("b 9")[0])
	return x
}

// written writes an input with all that is in its memory, also after the length of its lists.
func written(x input) string {
	var b strings.Builder
	for _, w := range x.w[:cap(x.w)] {
		fmt.Fprintf(&b, "%+v %q\n", w, w.Players[:cap(w.Players)])
	}
	fmt.Fprintf(&b, "%+v %q %q\n", x.r, x.r.Teams[:cap(x.r.Teams)], x.r.Players[:cap(x.r.Players)])
	fmt.Fprintf(&b, "%+v\n%+v\n%+v\n", x.k[:cap(x.k)], x.s[:cap(x.s)], x.l[:cap(x.l)])
	fmt.Fprintf(&b, "%+v %q %q\n", x.h, x.h.Teams[:cap(x.h.Teams)], x.h.Players[:cap(x.h.Players)])
	fmt.Fprintf(&b, "%+v\n%+v\n", x.sales[:cap(x.sales)], x.limits[:cap(x.limits)])
	return b.String()
}

// fill puts a value at all places of a list's memory.
func fill[T any](l []T, x T) {
	for i := range l[:cap(l)] {
		l[:cap(l)][i] = x
	}
}

// scribble changes all that results have in their memory.
func scribble(results []any) {
	for _, r := range results {
		switch l := r.(type) {
		case []string:
			fill(l, "scribble")
		case []api.Pair:
			fill(l, api.Pair{Name: "scribble"})
		case []api.Pick:
			fill(l, api.Pick{Player: "scribble"})
		case []api.Wishes:
			for _, x := range l {
				fill(x.Players, "scribble")
			}
			fill(l, api.Wishes{Team: "scribble"})
		}
	}
}

// Z2: arguments are neither modified nor kept, results are new memory, and what is after a list's length is not looked at.
func TestMemory(t *testing.T) {
	for _, f := range functions() {
		want := fmt.Sprint(f.call(right()))
		x := junked()
		before := written(x)
		results := f.call(x)
		equal(t, f.name+" with junk behind lists", fmt.Sprint(results), want)
		scribble(results)
		equal(t, f.name+": its arguments", written(x), before)
		equal(t, f.name+" after its results were changed", fmt.Sprint(f.call(x)), want)
	}
}

// Z2: the lists of one result share no memory.
func TestTeamsApart(t *testing.T) {
	x := right()
	want, _ := Teams(x.r, x.k, x.s, x.l)
	teams, _ := Teams(x.r, x.k, x.s, x.l)
	for i := range teams {
		for j := range teams {
			if i != j {
				fill(teams[j].Players, "scribble")
			}
		}
		list(t, teams[i].Team, teams[i].Players, want[i].Players)
		teams, _ = Teams(x.r, x.k, x.s, x.l)
	}
}

// Z5: an empty and a nil list are the same.
func TestEmptyLists(t *testing.T) {
	none := input{r: room(api.TurnThird), h: hall(), team: "a", player: "p1"}
	empty := none
	empty.k, empty.s, empty.l, empty.w = []api.Keep{}, []api.Swap{}, []api.Pick{}, []api.Wishes{}
	empty.sales, empty.limits = []api.Sale{}, []api.Pair{}
	for _, f := range functions() {
		results := f.call(none)
		equal(t, f.name, fmt.Sprint(f.call(empty)), fmt.Sprint(results))
		equal(t, f.name, results[len(results)-1].(api.Errno), api.OK)
	}
	r, h := none.r, none.h
	r.Teams, h.Teams = []string{}, []string{}
	equal(t, "no teams", CheckRoom(r), api.ErrNone)
	equal(t, "no teams", CheckHall(h), api.ErrNone)
	r, h = none.r, none.h
	r.Players, h.Players = []string{}, []string{}
	equal(t, "no players", CheckRoom(r), api.ErrFull)
	equal(t, "no players", CheckHall(h), api.ErrFull)
	for _, players := range [][]string{nil, {}} {
		all, e := Finish(none.r, nil, nil, nil, []api.Wishes{{Team: "a", Players: players}})
		equal(t, "no wishes", e, api.OK)
		equal(t, "no wishes", all[0].Player, "p1")
	}
}

// Z1 and Z6: every call returns, whatever its numbers and however large its arguments are.
func TestAnyArguments(t *testing.T) {
	var all []input
	for _, n := range []int{math.MinInt, -1, 0, 1, math.MaxInt} {
		for field := range 13 {
			x := right()
			*[]*int{
				&x.r.Rounds, &x.r.Way, &x.r.Clock, &x.r.Start, &x.k[1].Round, &x.s[0].Round, &x.l[1].No, &x.l[1].At,
				&x.at, &x.h.Budget, &x.h.Places, &x.sales[0].Price, &x.sales[1].Price,
			}[field] = n
			all = append(all, x)
		}
	}
	for _, text := range []string{"", "-", " ", "\n", "\xff", "0 a p9 150\n", strings.Repeat("a", 200_000)} {
		for field := range 14 {
			x := right()
			*[]*string{
				&x.r.Teams[1], &x.r.Players[1], &x.k[1].Team, &x.k[1].Player, &x.s[0].Of, &x.s[0].Team, &x.l[1].Team,
				&x.l[1].Player, &x.w[1].Team, &x.w[1].Players[1], &x.team, &x.player, &x.limits[1].Name, &x.limits[1].Value,
			}[field] = text
			x.txt = strings.Repeat(text, 200_000/max(len(text), 1))
			all = append(all, x)
		}
	}
	for _, x := range append(all, largeInputs()...) {
		for _, f := range functions() {
			first := fmt.Sprint(f.call(x))
			equal(t, f.name, fmt.Sprint(f.call(x)), first)
		}
	}
}

// largeInputs has one input with all lists as long as they may be given, and for each list one with this list alone.
func largeInputs() []input {
	const many = 200_000
	large := input{
		r: api.Room{Teams: make([]string, many), Players: make([]string, many), Rounds: math.MaxInt},
		k: make([]api.Keep, many), s: make([]api.Swap, many), l: make([]api.Pick, many), w: make([]api.Wishes, many),
		h:     api.Hall{Teams: make([]string, many), Players: make([]string, many), Places: math.MaxInt},
		sales: make([]api.Sale, many), limits: make([]api.Pair, many),
	}
	all := []input{large}
	for field := range 9 {
		x := right()
		switch field {
		case 0:
			x.r.Teams, x.h.Teams = large.r.Teams, large.h.Teams
		case 1:
			x.r.Players, x.h.Players = large.r.Players, large.h.Players
		case 2:
			x.k = large.k
		case 3:
			x.s = large.s
		case 4:
			x.l = large.l
		case 5:
			x.w = large.w
		case 6:
			x.w[0].Players = make([]string, many)
		case 7:
			x.sales = large.sales
		case 8:
			x.limits = large.limits
		}
		all = append(all, x)
	}
	return all
}

// Z1 and Z7: any number of goroutines can call at once, and the same arguments give the same results.
func TestSameResults(t *testing.T) {
	x := right()
	x.r, x.w, x.k, x.s, x.at = wideRoom(), wideWishes(), nil, nil, api.End-1
	x.l, _ = Auto(x.r, nil, nil, nil, nil, 100_000)
	x.h, x.sales, x.team, x.player = wideHall(), nil, key(3), key(4)
	x.limits = nil
	for _, team := range x.h.Teams {
		x.limits = append(x.limits, api.Pair{Name: team, Value: "7"})
	}
	for _, f := range functions() {
		want := fmt.Sprint(f.call(x))
		results := make([]string, 20)
		var all sync.WaitGroup
		for i := range results {
			all.Go(func() { results[i] = fmt.Sprint(f.call(x)) })
		}
		all.Wait()
		for _, got := range results {
			equal(t, f.name, got, want)
		}
	}
}

// Z9: strings are compared byte by byte, also where players, keeps and swaps are found.
func TestBytes(t *testing.T) {
	bytes := strings.Fields("k k- k0 k_ ka")
	r := api.Room{Teams: bytes, Rounds: 1, Way: api.TurnStraight, Players: bytes, Clock: 1_000}
	for i, one := range bytes {
		swap, keep := api.Swap{Round: 1, Of: one, Team: "k"}, api.Keep{Team: one, Player: one, Round: 1}
		turns, e := Turns(r, []api.Swap{swap})
		equal(t, "Turns", e, api.OK)
		equal(t, "Turns", turns[i], "k")
		for j, other := range bytes {
			want := api.ErrOrder
			if i < j {
				want = api.OK
			}
			equal(t, "CheckSwaps", CheckSwaps(r, []api.Swap{swap, {Round: 1, Of: other, Team: "k"}}), want)
			equal(t, "CheckKeeps", CheckKeeps(r, []api.Keep{keep, {Team: other, Player: bytes[(i+1)%len(bytes)], Round: 1}}), want)
		}
		left, e := Left(r, []api.Keep{keep}, nil, nil)
		equal(t, "Left", e, api.OK)
		list(t, "Left", left, slices.Delete(slices.Clone(bytes), i, i+1))
	}
}
