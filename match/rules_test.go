package match

import (
	"fmt"
	"math"
	"reflect"
	"slices"
	"strings"
	"sync"
	"testing"

	"benchwarmer/api"
)

// input has an argument for each part of the functions' arguments.
type input struct {
	teams      []string
	g          []api.Game
	weeks      int // of Schedule
	next, week int // of Set, and of At and Median
	points     []api.Pair
	breaks     []int
	team       string
	places     int
	txt        string
}

// right is an input with which nothing is wrong.
func right() input {
	return input{
		teams:  four(),
		g:      games("1 a b 5 4,1 c d 1/2 1/2,2 a b 3 1,2 c d 2 1,3 a c,3 b d"),
		weeks:  3,
		next:   3,
		week:   1,
		points: pairs("a:1/1 b:2/1 c:3/1 d:4/1"),
		breaks: []int{api.BreakHead, api.BreakFor},
		team:   "a",
		places: 2,
		txt:    "1 a b 1/1 1/2\n2 b a\n",
	}
}

// spoiled makes a part wrong, and says with which error.
func spoiled(part string, x *input) api.Errno {
	switch part {
	case "teams":
		x.teams = []string{"b", "a"}
		return api.ErrOrder
	case "games":
		x.g[1].Away = "c"
		return api.ErrTwice
	case "lacking":
		x.points = x.points[:3]
		return api.ErrNone
	case "played":
		x.g[5] = gameOf("3 b d 1 1")
		return api.ErrState
	case "points":
		x.points[0].Value = "1"
		return api.ErrSyntax
	case "breaks":
		x.breaks[1] = 6
		return api.ErrKind
	case "ended":
		x.g[0] = gameOf("1 a b")
		return api.ErrState
	case "team":
		x.team = "e"
		return api.ErrNone
	case "many":
		x.g = append(x.g, games("4 a b,4 c d,5 a b,5 c d,6 a b,6 c d,7 a b")...)
		return api.ErrLarge
	case "txt":
		x.txt = "1 a b 1\n"
		return api.ErrSyntax
	case "weeks":
		x.weeks = api.MaxWeeks + 1
	case "next":
		x.next = 0
	case "week":
		x.week = api.MaxWeeks + 1
	case "places":
		x.places = 5
	}
	return api.ErrArg
}

// function is a function of the chapter: call returns its results, the error last; order is in which order parts are asked for.
type function struct {
	name, order string
	call        func(x input) []any
}

// made puts results into a list; the error of a Check is alone.
func made(results ...any) []any { return results }

func functions() []function {
	return []function{
		{"CheckTeams", "teams", func(x input) []any { return made(CheckTeams(x.teams)) }},
		{"Schedule", "teams weeks", func(x input) []any { return made(Schedule(x.teams, x.weeks)) }},
		{"CheckGames", "teams games", func(x input) []any { return made(CheckGames(x.teams, x.g)) }},
		{"Set", "teams games next points lacking played", func(x input) []any { return made(Set(x.teams, x.g, x.next, x.points)) }},
		{"Table", "teams games breaks", func(x input) []any { return made(Table(x.teams, x.g, x.breaks)) }},
		{"At", "teams games breaks week", func(x input) []any { return made(At(x.teams, x.g, x.breaks, x.week)) }},
		{"Streak", "teams games team", func(x input) []any { return made(Streak(x.teams, x.g, x.team)) }},
		{"Faced", "teams games team", func(x input) []any { return made(Faced(x.teams, x.g, x.team)) }},
		{"Median", "teams games week ended", func(x input) []any { return made(Median(x.teams, x.g, x.week)) }},
		{"Alike", "teams games", func(x input) []any { return made(Alike(x.teams, x.g)) }},
		{"Through", "teams games places many", func(x input) []any { return made(Through(x.teams, x.g, x.places)) }},
		{"Out", "teams games places many", func(x input) []any { return made(Out(x.teams, x.g, x.places)) }},
		{"Needs", "teams games places team many", func(x input) []any { return made(Needs(x.teams, x.g, x.team, x.places)) }},
		{"Worst", "teams games team many", func(x input) []any { return made(Worst(x.teams, x.g, x.team)) }},
		{"Text", "games", func(x input) []any { return made(Text(x.g)) }},
		{"Read", "txt", func(x input) []any { return made(Read(x.txt)) }},
	}
}

// Z3 and Z4: errors come in their order, and with them all other results are zero values.
func TestErrorsInOrder(t *testing.T) {
	for _, f := range functions() {
		parts := strings.Fields(f.order)
		for i := range parts {
			x := right()
			var want api.Errno
			for _, part := range slices.Backward(parts[i:]) {
				want = spoiled(part, &x)
			}
			results := f.call(x)
			last := len(results) - 1
			if results[last] != want {
				t.Errorf("%s with wrong %v: got %v, want %v", f.name, parts[i:], results[last], want)
			}
			for _, r := range results[:last] {
				if v := reflect.ValueOf(r); !v.IsZero() && !(v.Kind() == reflect.Slice && v.Len() == 0) {
					t.Errorf("%s with wrong %v: got %v beside the error", f.name, parts[i:], r)
				}
			}
		}
		results := f.call(right())
		last := len(results) - 1
		if results[last] != api.OK {
			t.Errorf("%s with nothing wrong: got %v", f.name, results[last])
		}
		if last > 0 && reflect.ValueOf(results[0]).IsZero() {
			t.Errorf("%s with nothing wrong: got nothing", f.name)
		}
	}
}

// behind puts junk into the memory of a list after its length.
func behind[T any](l []T, junk T) []T {
	return append(slices.Clone(l), junk, junk)[:len(l)]
}

// junked is an input that has junk in the memory after each list.
func junked() input {
	x := right()
	x.teams = behind(x.teams, "e")
	x.g = behind(x.g, gameOf("4 a b 1 0"))
	x.points = behind(x.points, api.Pair{Name: "a", Value: "9/1"})
	x.breaks = behind(x.breaks, api.BreakWins)
	return x
}

// written writes an input with all that is in its memory, also after the length of its lists.
func (x input) written() string {
	return fmt.Sprintf("%q %v %q %v", x.teams[:cap(x.teams)], x.g[:cap(x.g)], x.points[:cap(x.points)], x.breaks[:cap(x.breaks)])
}

// fill puts a value at all places of a list's memory.
func fill[T any](l []T, x T) {
	for i := range l[:cap(l)] {
		l[:cap(l)][i] = x
	}
}

// scribble changes all that results have in their memory.
func scribble(results []any) {
	for _, r := range results {
		switch l := r.(type) {
		case []string:
			fill(l, "scribble")
		case []api.Game:
			fill(l, api.Game{Home: "scribble"})
		case []api.Standing:
			fill(l, api.Standing{Team: "scribble"})
		case []api.Pair:
			fill(l, api.Pair{Name: "scribble"})
		}
	}
}

// Z2: arguments are neither modified nor kept, results are new memory, and what is after a list's length is not looked at.
func TestMemory(t *testing.T) {
	for _, f := range functions() {
		want := fmt.Sprint(f.call(right()))
		x := junked()
		before := x.written()
		results := f.call(x)
		equal(t, f.name+" with junk behind lists", fmt.Sprint(results), want)
		scribble(results)
		equal(t, f.name+": its arguments", x.written(), before)
		equal(t, f.name+" after its results were changed", fmt.Sprint(f.call(x)), want)
	}
	// Nothing is to be played in this week, but the games are new ones all the same.
	x := junked()
	before := x.written()
	g, e := Set(x.teams, x.g, 9, nil)
	equal(t, "Set", e, api.OK)
	fill(g, api.Game{Home: "scribble"})
	equal(t, "Set without games", x.written(), before)
}

// Z5: an empty and a nil list are the same.
func TestEmptyLists(t *testing.T) {
	none := input{teams: four(), weeks: 1, next: 1, week: 1, team: "a", places: 1}
	empty := none
	empty.g, empty.points, empty.breaks = []api.Game{}, []api.Pair{}, []int{}
	for _, f := range functions() {
		results := f.call(none)
		equal(t, f.name, fmt.Sprint(f.call(empty)), fmt.Sprint(results))
		equal(t, f.name, results[len(results)-1].(api.Errno), api.OK)
	}
	equal(t, "no teams", CheckTeams(nil), api.ErrNone)
	equal(t, "no teams", CheckTeams([]string{}), api.ErrNone)
}

// Z1 and Z6: every call returns, whatever its numbers and however large its arguments are.
func TestAnyArguments(t *testing.T) {
	var all []input
	for _, n := range []int{math.MinInt, -1, 0, 1, math.MaxInt} {
		for field := range 11 {
			x := right()
			*[]*int{
				&x.g[0].Week, &x.g[0].For.Num, &x.g[0].For.Den, &x.g[0].Other.Num, &x.g[0].Other.Den, &x.g[5].For.Num,
				&x.weeks, &x.next, &x.week, &x.breaks[0], &x.places,
			}[field] = n
			all = append(all, x)
		}
	}
	for _, text := range []string{"", "-", " ", "\n", "\xff", "1/1", "1 a b\n", "1 a b 1/1 1/1\n", strings.Repeat("a", 200_000)} {
		for field := range 6 {
			x := right()
			*[]*string{&x.teams[1], &x.g[0].Home, &x.g[0].Away, &x.points[0].Name, &x.points[0].Value, &x.team}[field] = text
			x.txt = strings.Repeat(text, 200_000/max(len(text), 1))
			all = append(all, x)
		}
	}
	const many = 200_000
	for field := range 4 {
		x := right()
		switch field {
		case 0:
			x.teams = keys(many)
		case 1:
			x.g = make([]api.Game, many)
			for i := range x.g {
				x.g[i] = api.Game{Week: i, Home: key(i), Away: key(many - i)}
			}
		case 2:
			x.points = make([]api.Pair, many)
		case 3:
			x.breaks = make([]int, many)
		}
		all = append(all, x)
	}
	for _, x := range all {
		for _, f := range functions() {
			first := fmt.Sprint(f.call(x))
			equal(t, f.name, fmt.Sprint(f.call(x)), first)
		}
	}
}

// Z1 and Z7: any number of goroutines can call at once, and the same arguments give the same results.
func TestSameResults(t *testing.T) {
	x := right()
	x.teams, x.g, x.team = keys(api.MaxTeams), fullSeason(595, 59), key(3)
	x.weeks, x.next, x.week = api.MaxWeeks, 60, 59
	x.points = nil
	for i := range api.MaxTeams {
		x.points = append(x.points, api.Pair{Name: key(i), Value: fmt.Sprint(i) + "/1"})
	}
	x.breaks = []int{1, 2, 3, 4, 5}
	x.txt, _ = Text(x.g)
	for _, f := range functions() {
		want := fmt.Sprint(f.call(x))
		results := make([]string, 20)
		var all sync.WaitGroup
		for i := range results {
			all.Go(func() { results[i] = fmt.Sprint(f.call(x)) })
		}
		all.Wait()
		for _, got := range results {
			equal(t, f.name, got, want)
		}
	}
}

// Z9: strings are compared byte by byte, also where teams and games are put in order.
func TestBytes(t *testing.T) {
	bytes := strings.Fields("k k- k0 k_ ka")
	for i, one := range bytes {
		for j, other := range bytes {
			want := api.ErrOrder
			if i < j {
				want = api.OK
			}
			equal(t, "CheckTeams", CheckTeams([]string{one, other}), want)
			if i == j {
				continue
			}
			both := []api.Game{{Week: 1, Home: one, Away: "y"}, {Week: 1, Home: other, Away: "z"}}
			equal(t, "CheckGames by Home", CheckGames(append(slices.Clone(bytes), "y", "z"), both), want)
			both = []api.Game{{Week: 1, Home: "y", Away: one}, {Week: 1, Home: "y", Away: other}}
			if want == api.OK {
				want = api.ErrConflict
			}
			equal(t, "CheckGames by Away", CheckGames(append(slices.Clone(bytes), "y", "z"), both), want)
		}
	}
	g, e := Schedule(bytes, 1)
	equal(t, "Schedule", e, api.OK)
	equal(t, "Schedule", shown(g), "1 k- ka,1 k0 k_")
	l, e := Table(bytes, nil, nil)
	equal(t, "Table", e, api.OK)
	equal(t, "Table", ranking(l), "1k 1k- 1k0 1k_ 1ka")
	above, e := Median(append(slices.Clone(bytes), "y", "z"), games("1 k_ y 9 0,1 ka z 9 0"), 1)
	equal(t, "Median", e, api.OK)
	list(t, "Median", above, []string{"k_", "ka"})
	s, e := Text(games("1 k- ka,1 k0 k_"))
	equal(t, "Text", e, api.OK)
	equal(t, "Text", s, "1 k- ka\n1 k0 k_\n")
}
