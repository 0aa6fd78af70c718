package roster

import (
	"fmt"
	"math"
	"reflect"
	"slices"
	"strings"
	"sync"
	"testing"

	"benchwarmer/api"
)

// input has an argument for each part of the functions' arguments.
type input struct {
	b                 api.Bounds
	l, other          []api.Move
	team, player, txt string
	players           []string
	at                int
	r                 []api.Roster
	p                 []api.Purse
	c                 []api.Claim
}

// right is an input with which nothing is wrong.
func right() input {
	return input{
		b:       bounds(),
		l:       moves("10 add x q", "10 add x r", "20 stash x r", "30 add x p", "30 add y p", "40 add y s", "50 drop x q"),
		other:   moves("5 add y a", "10 add x r", "60 drop y a"),
		team:    "x",
		player:  "p",
		txt:     "0 add x p\n5 drop x p\n",
		players: strings.Fields("z q p a"),
		at:      45,
		r:       rosters("x a c / e", "y b"),
		p:       purses("y 5", "x 5"),
		c:       claims("x 1 3 f a", "x 2 1 g", "y 1 3 f"),
	}
}

// spoiled makes a part wrong, and says with which error.
func spoiled(part string, x *input) api.Errno {
	switch part {
	case "moves":
		x.l = moves("1 add x p", "0 add x p")
		return api.ErrOrder
	case "other":
		x.other = make([]api.Move, api.MaxMoves+1)
		return api.ErrLarge
	case "team":
		x.team = ""
		return api.ErrName
	case "player":
		x.player = "P"
		return api.ErrName
	case "players":
		x.players = make([]string, api.MaxPlayers+1)
		return api.ErrLarge
	case "rosters":
		x.r = append(x.r, rosters("z a")...)
		return api.ErrTwice
	case "purses":
		x.p = purses("x 5", "x 5")
		return api.ErrNone
	case "claims":
		x.c = claims("x 1 3 f f")
		return api.ErrTwice
	case "txt":
		x.txt = "0 trade x p\n"
		return api.ErrSyntax
	case "bounds":
		x.b.Most = 0
	case "moment":
		x.at = -1
	}
	return api.ErrArg
}

// function is a function of the chapter: call returns its results, the error last; order is in which order parts are asked for.
type function struct {
	name, order string
	call        func(x input) []any
}

// made puts results into a list; the error of a Check is alone.
func made(results ...any) []any { return results }

func functions() []function {
	return []function{
		{"CheckBounds", "bounds", func(x input) []any { return made(CheckBounds(x.b)) }},
		{"CheckMoves", "moves", func(x input) []any { return made(CheckMoves(x.l)) }},
		{"Merge", "moves other", func(x input) []any { return made(Merge(x.l, x.other)) }},
		{"Refused", "bounds moves", func(x input) []any { return made(Refused(x.b, x.l)) }},
		{"At", "bounds moves team moment", func(x input) []any { return made(At(x.b, x.l, x.team, x.at)) }},
		{"All", "bounds moves moment", func(x input) []any { return made(All(x.b, x.l, x.at)) }},
		{"Owner", "bounds moves player moment", func(x input) []any { return made(Owner(x.b, x.l, x.player, x.at)) }},
		{"Free", "bounds moves players moment", func(x input) []any { return made(Free(x.b, x.l, x.players, x.at)) }},
		{"FreeFrom", "bounds moves player moment", func(x input) []any { return made(FreeFrom(x.b, x.l, x.player, x.at)) }},
		{"Adds", "bounds moves team moment", func(x input) []any { return made(Adds(x.b, x.l, x.team, x.at)) }},
		{"CheckRosters", "bounds rosters", func(x input) []any { return made(CheckRosters(x.b, x.r)) }},
		{"CheckClaims", "purses claims", func(x input) []any { return made(CheckClaims(x.r, x.p, x.c)) }},
		{"Settle", "bounds rosters purses claims", func(x input) []any { return made(Settle(x.b, x.r, x.p, x.c)) }},
		{"Text", "moves", func(x input) []any { return made(Text(x.l)) }},
		{"Read", "txt", func(x input) []any { return made(Read(x.txt)) }},
	}
}

// Z3 and Z4: errors come in their order, and with them all other results are zero values.
func TestErrorsInOrder(t *testing.T) {
	for _, f := range functions() {
		parts := strings.Fields(f.order)
		for i := range parts {
			x := right()
			var want api.Errno
			for _, part := range slices.Backward(parts[i:]) {
				want = spoiled(part, &x)
			}
			results := f.call(x)
			last := len(results) - 1
			if results[last] != want {
				t.Errorf("%s with wrong %v: got %v, want %v", f.name, parts[i:], results[last], want)
			}
			for _, r := range results[:last] {
				if v := reflect.ValueOf(r); !v.IsZero() && !(v.Kind() == reflect.Slice && v.Len() == 0) {
					t.Errorf("%s with wrong %v: got %v beside the error", f.name, parts[i:], r)
				}
			}
		}
		results := f.call(right())
		last := len(results) - 1
		if results[last] != api.OK {
			t.Errorf("%s with nothing wrong: got %v", f.name, results[last])
		}
		if last > 0 && f.name != "FreeFrom" && reflect.ValueOf(results[0]).IsZero() {
			t.Errorf("%s with nothing wrong: got nothing", f.name)
		}
	}
}

// behind puts junk into the memory of a list after its length.
func behind[T any](l []T, junk T) []T {
	return append(slices.Clone(l), junk, junk)[:len(l)]
}

// junked is an input that has junk in the memory after each list.
func junked() input {
	x := right()
	for i := range x.r {
		x.r[i].Players, x.r[i].Hurt = behind(x.r[i].Players, "f"), behind(x.r[i].Hurt, "g")
	}
	x.l, x.other = behind(x.l, moves("45 drop x p")[0]), behind(x.other, moves("61 add y b")[0])
	x.players, x.r = behind(x.players, "b"), behind(x.r, rosters("z f")[0])
	x.p, x.c = behind(x.p, purses("x 9")[0]), behind(x.c, claims("y 2 0 h")[0])
	return x
}

// written writes an input with all that is in its memory, also after the length of its lists.
func written(x input) string {
	var b strings.Builder
	for _, r := range x.r[:cap(x.r)] {
		fmt.Fprintf(&b, "%+v %q %q\n", r, r.Players[:cap(r.Players)], r.Hurt[:cap(r.Hurt)])
	}
	fmt.Fprintf(&b, "%+v\n%+v\n%q\n", x.l[:cap(x.l)], x.other[:cap(x.other)], x.players[:cap(x.players)])
	fmt.Fprintf(&b, "%+v\n%+v\n", x.p[:cap(x.p)], x.c[:cap(x.c)])
	return b.String()
}

// fill puts a value at all places of a list's memory.
func fill[T any](l []T, x T) {
	for i := range l[:cap(l)] {
		l[:cap(l)][i] = x
	}
}

// scribble changes all that results have in their memory.
func scribble(results []any) {
	for _, r := range results {
		switch l := r.(type) {
		case []int:
			fill(l, 99)
		case []string:
			fill(l, "scribble")
		case []api.Errno:
			fill(l, api.ErrLoop)
		case []api.Move:
			fill(l, api.Move{Player: "scribble"})
		case []api.Settled:
			fill(l, api.Settled{Team: "scribble"})
		case []api.Purse:
			fill(l, api.Purse{Team: "scribble"})
		case api.Roster:
			fill(l.Players, "scribble")
			fill(l.Hurt, "scribble")
		case []api.Roster:
			for _, x := range l {
				fill(x.Players, "scribble")
				fill(x.Hurt, "scribble")
			}
			fill(l, api.Roster{Team: "scribble"})
		}
	}
}

// Z2: arguments are neither modified nor kept, results are new memory, and what is after a list's length is not looked at.
func TestMemory(t *testing.T) {
	for _, f := range functions() {
		want := fmt.Sprint(f.call(right()))
		x := junked()
		before := written(x)
		results := f.call(x)
		equal(t, f.name+" with junk behind lists", fmt.Sprint(results), want)
		scribble(results)
		equal(t, f.name+": its arguments", written(x), before)
		equal(t, f.name+" after its results were changed", fmt.Sprint(f.call(x)), want)
	}
}

// Z2: the lists of one result share no memory.
func TestRostersApart(t *testing.T) {
	for name, made := range map[string]func() []api.Roster{
		"At":  func() []api.Roster { r, _ := At(bounds(), right().l, "x", 45); return []api.Roster{r} },
		"All": func() []api.Roster { r, _ := All(bounds(), right().l, 45); return r },
		"Settle": func() []api.Roster {
			x := right()
			_, r, _, _ := Settle(x.b, x.r, x.p, x.c)
			return r
		},
	} {
		lists := func(r []api.Roster) []*[]string {
			var all []*[]string
			for i := range r {
				all = append(all, &r[i].Players, &r[i].Hurt)
			}
			return all
		}
		want := lists(made())
		for i := range want {
			got := lists(made())
			for j := range got {
				if i != j {
					fill(*got[j], "scribble")
					*got[j] = append(*got[j], "scribble")
				}
			}
			list(t, name, *got[i], *want[i])
		}
	}
}

// Z5: an empty and a nil list are the same.
func TestEmptyLists(t *testing.T) {
	none := input{b: bounds(), team: "x", player: "p"}
	empty := none
	empty.l, empty.other, empty.players = []api.Move{}, []api.Move{}, []string{}
	empty.r, empty.p, empty.c = []api.Roster{}, []api.Purse{}, []api.Claim{}
	for _, f := range functions() {
		results := f.call(none)
		equal(t, f.name, fmt.Sprint(f.call(empty)), fmt.Sprint(results))
		equal(t, f.name, results[len(results)-1].(api.Errno), api.OK)
	}
	for _, players := range [][]string{nil, {}} {
		r := []api.Roster{{Team: "x", Players: players, Hurt: players}}
		equal(t, "no players", CheckRosters(bounds(), r), api.OK)
		settled, then, _, e := Settle(bounds(), r, purses("x 5"), claims("x 1 5 a", "x 2 0 c b"))
		equal(t, "no players", e, api.OK)
		equal(t, "no players", became(settled), "x 1, x 2 none")
		equal(t, "no players", shown(then...), "x a")
	}
}

// Z1 and Z6: every call returns, whatever its numbers and however large its arguments are.
func TestAnyArguments(t *testing.T) {
	var all []input
	for _, n := range []int{math.MinInt, -1, 0, 1, math.MaxInt} {
		for field := range 12 {
			x := right()
			*[]*int{
				&x.b.Most, &x.b.Hurt, &x.b.Adds, &x.b.Hold, &x.l[1].At, &x.l[1].Kind, &x.other[0].At, &x.at,
				&x.p[0].Left, &x.c[0].No, &x.c[0].Bid, &x.c[2].Bid,
			}[field] = n
			all = append(all, x)
		}
	}
	for _, text := range []string{"", "-", " ", "\n", "\xff", "0 add x p\n", strings.Repeat("a", 200_000)} {
		for field := range 13 {
			x := right()
			*[]*string{
				&x.l[1].Team, &x.l[1].Player, &x.other[0].Team, &x.other[0].Player, &x.team, &x.player, &x.players[1],
				&x.r[1].Team, &x.r[0].Players[1], &x.r[0].Hurt[0], &x.p[1].Team, &x.c[0].Player, &x.c[0].Drop,
			}[field] = text
			x.txt = strings.Repeat(text, 200_000/max(len(text), 1))
			all = append(all, x)
		}
	}
	for _, x := range append(all, largeInputs()...) {
		for _, f := range functions() {
			first := fmt.Sprint(f.call(x))
			equal(t, f.name, fmt.Sprint(f.call(x)), first)
		}
	}
}

// largeInputs has one input with all lists as long as they may be given, and for each list one with this list alone.
func largeInputs() []input {
	const many = 200_000
	large := input{
		b: widest(), l: make([]api.Move, many), other: make([]api.Move, many), players: make([]string, many),
		r: manyRosters(many, 0), c: make([]api.Claim, many),
	}
	for _, x := range large.r {
		large.p = append(large.p, api.Purse{Team: x.Team})
	}
	all := []input{large}
	for field := range 8 {
		x := right()
		switch field {
		case 0:
			x.l = large.l
		case 1:
			x.other = large.other
		case 2:
			x.players = large.players
		case 3:
			x.r = large.r
		case 4:
			x.r[0].Players = make([]string, many)
		case 5:
			x.r[0].Hurt = make([]string, many)
		case 6:
			x.p = large.p
		case 7:
			x.c = large.c
		}
		all = append(all, x)
	}
	return all
}

// Z1 and Z7: any number of goroutines can call at once, and the same arguments give the same results.
func TestSameResults(t *testing.T) {
	x := right()
	x.b, x.l, x.at, x.team, x.player = widest(), manyMoves(api.MaxMoves, api.MoveAdd), api.End-1, key(0), key(0)
	x.players = keys(api.MaxPlayers)
	x.r, x.p, x.c = manyRosters(api.MaxTeams, 5), nil, nil
	for i, r := range x.r {
		x.p = append(x.p, api.Purse{Team: r.Team, Left: 10})
		for no := range 9 {
			x.c = append(x.c, api.Claim{Team: r.Team, No: 1 + no, Bid: no % 3, Player: key(1_000 + (i+no)%30), Drop: r.Players[no%5]})
		}
	}
	for _, f := range functions() {
		want := fmt.Sprint(f.call(x))
		results := make([]string, 20)
		var all sync.WaitGroup
		for i := range results {
			all.Go(func() { results[i] = fmt.Sprint(f.call(x)) })
		}
		all.Wait()
		for _, got := range results {
			equal(t, f.name, got, want)
		}
	}
}

// Z9: strings are compared byte by byte, also where moves, rosters and claims are put in order.
func TestBytes(t *testing.T) {
	bytes := strings.Fields("k k- k0 k_ ka")
	for i, one := range bytes {
		for j, other := range bytes {
			want := api.ErrOrder
			if i < j {
				want = api.OK
			}
			equal(t, "CheckMoves by Team", CheckMoves(moves("0 add "+one+" p", "0 add "+other+" p")), want)
			equal(t, "CheckMoves by Player", CheckMoves(moves("0 add x "+one, "0 add x "+other)), want)
			equal(t, "CheckRosters", CheckRosters(bounds(), rosters(one, other)), want)
			equal(t, "Players", CheckRosters(bounds(), rosters("x "+one+" "+other)), want)
			if i != j {
				equal(t, "CheckClaims", CheckClaims(rosters(one, other), purses(one+" 1", other+" 1"), claims(one+" 1 0 p", other+" 1 0 p")), want)
			}
		}
	}
	var l []api.Move
	var r []api.Roster
	var p []api.Purse
	var c []api.Claim
	for at, i := range []int{3, 0, 4, 2, 1} {
		k := bytes[i]
		l = append(l, api.Move{At: at, Kind: api.MoveAdd, Team: k, Player: k}, api.Move{At: 10 + at, Kind: api.MoveAdd, Team: "x", Player: "x" + k})
		r, p = append(r, api.Roster{Team: bytes[at]}), append(p, api.Purse{Team: k})
		c = append(c, api.Claim{Team: "k", No: 1 + at, Player: k})
	}
	slices.SortFunc(l, func(x, y api.Move) int { return x.At - y.At })
	all, e := All(widest(), l, 20)
	equal(t, "All", e, api.OK)
	equal(t, "All", shown(all...), "k k, k- k-, k0 k0, k_ k_, ka ka, x xk xk- xk0 xk_ xka")
	settled, then, _, e := Settle(widest(), r, p, c)
	equal(t, "Settle", e, api.OK)
	equal(t, "Settle", became(settled), "k 1, k 2, k 3, k 4, k 5")
	equal(t, "Settle", shown(then...), "k k k- k0 k_ ka, k-, k0, k_, ka")
}
