package final

import (
	"fmt"
	"math"
	"reflect"
	"slices"
	"strings"
	"sync"
	"testing"

	"benchwarmer/api"
)

// input has an argument for each part of the functions' arguments.
type input struct {
	seeds         []string
	many          int
	winners, left []int
	one, other    int
	rounds        [][]string
	home, away    []api.Fraction
	teams         []string
	weights, lots []int
	top, place    int
	team          string
	turns         int // of Snake
	h, more       []api.Honour
	least         int
	txt           string
}

// right is an input with which nothing is wrong.
func right() input {
	return input{
		seeds:   strings.Fields("a b c d"),
		many:    6,
		winners: numbers("1 5 2 3"),
		left:    numbers("1 3 4"),
		one:     1,
		other:   5,
		rounds:  rounds("a c,c"),
		home:    fracs("1 2"),
		away:    fracs("0 1/2"),
		teams:   strings.Fields("z y x"),
		weights: numbers("1 1 2"),
		lots:    numbers("7 6"),
		top:     2,
		place:   2,
		team:    "z",
		turns:   2,
		h:       honours("1 1 a 5,2 1 a 1/2"),
		more:    honours("2 1 a 1/2,3 1 b"),
		least:   2,
		txt:     "1 1 a 5/1\n1 2 b 0/1\n",
	}
}

// spoiled makes a part wrong, and says with which error.
func spoiled(part string, x *input) api.Errno {
	switch part {
	case "seeds":
		x.seeds[1] = "B"
		return api.ErrName
	case "winners":
		x.winners[1] = 6
		return api.ErrConflict
	case "left":
		x.left[2] = 3
		return api.ErrOrder
	case "same":
		x.other = x.one
		return api.ErrTwice
	case "length":
		x.rounds = x.rounds[:1]
		return api.ErrForm
	case "round":
		x.rounds[1] = []string{"b"}
		return api.ErrNone
	case "legs":
		x.home = x.home[:1]
		return api.ErrForm
	case "home":
		x.home[0] = frac("1/3")
		return api.ErrArg
	case "away":
		x.away[0] = frac("2/4")
		return api.ErrForm
	case "teams":
		x.teams[2] = "y"
		return api.ErrTwice
	case "lots":
		x.lots = x.lots[:1]
		return api.ErrForm
	case "team":
		x.team = "w"
		return api.ErrNone
	case "honours":
		x.h[1].Season = 1
		return api.ErrOrder
	case "more":
		x.more[0].Team = "A"
		return api.ErrName
	case "other":
		x.more[0].Team = "c"
		return api.ErrConflict
	case "txt":
		x.txt = "1 1 a\n"
		return api.ErrSyntax
	case "many":
		x.many = api.MaxTeams + 1
	case "one":
		x.one = 0
	case "weights":
		x.weights[0] = api.MaxWeights + 1
	case "top":
		x.top = maxTop + 1
	case "lot":
		x.lots[0] = -1
	case "place":
		x.place = len(x.teams) + 1
	case "turns":
		x.turns = api.MaxRoster + 1
	case "least":
		x.least = api.MaxSeasons + 1
	}
	return api.ErrArg
}

// function is a function of the chapter: call returns its results, the error last; order is in which order parts are asked for.
type function struct {
	name, order string
	call        func(x input) []any
}

// made puts results into a list; the error of a Check is alone.
func made(results ...any) []any { return results }

func functions() []function {
	return []function{
		{"CheckSeeds", "seeds", func(x input) []any { return made(CheckSeeds(x.seeds)) }},
		{"First", "many", func(x input) []any { return made(First(x.many)) }},
		{"Fixed", "many winners", func(x input) []any { return made(Fixed(x.many, x.winners)) }},
		{"Anew", "left", func(x input) []any { return made(Anew(x.left)) }},
		{"Rounds", "many", func(x input) []any { return made(Rounds(x.many)) }},
		{"Earliest", "many one same", func(x input) []any { return made(Earliest(x.many, x.one, x.other)) }},
		{"Play", "seeds length round", func(x input) []any { return made(Play(x.seeds, x.rounds)) }},
		{"Legs", "legs home away", func(x input) []any { return made(Legs(x.home, x.away)) }},
		{"CheckWeights", "teams weights", func(x input) []any { return made(CheckWeights(x.teams, x.weights)) }},
		{"Draw", "teams weights top lots lot", func(x input) []any { return made(Draw(x.teams, x.weights, x.lots, x.top)) }},
		{"Chance", "teams weights top team place", func(x input) []any { return made(Chance(x.teams, x.weights, x.team, x.place, x.top)) }},
		{"Fall", "teams weights top", func(x input) []any { return made(Fall(x.teams, x.weights, x.top)) }},
		{"Snake", "seeds turns", func(x input) []any { return made(Snake(x.seeds, x.turns)) }},
		{"CheckHonours", "honours", func(x input) []any { return made(CheckHonours(x.h)) }},
		{"Merge", "honours more other", func(x input) []any { return made(Merge(x.h, x.more)) }},
		{"Titles", "honours", func(x input) []any { return made(Titles(x.h)) }},
		{"Dynasties", "honours least", func(x input) []any { return made(Dynasties(x.h, x.least)) }},
		{"Text", "honours", func(x input) []any { return made(Text(x.h)) }},
		{"Read", "txt", func(x input) []any { return made(Read(x.txt)) }},
	}
}

// Z3 and Z4: errors come in their order, and with them all other results are zero values.
func TestErrorsInOrder(t *testing.T) {
	for _, f := range functions() {
		parts := strings.Fields(f.order)
		for i := range parts {
			x := right()
			var want api.Errno
			for _, part := range slices.Backward(parts[i:]) {
				want = spoiled(part, &x)
			}
			results := f.call(x)
			last := len(results) - 1
			if results[last] != want {
				t.Errorf("%s with wrong %v: got %v, want %v", f.name, parts[i:], results[last], want)
			}
			for _, r := range results[:last] {
				if v := reflect.ValueOf(r); !v.IsZero() && !(v.Kind() == reflect.Slice && v.Len() == 0) {
					t.Errorf("%s with wrong %v: got %v beside the error", f.name, parts[i:], r)
				}
			}
		}
		results := f.call(right())
		last := len(results) - 1
		if results[last] != api.OK {
			t.Errorf("%s with nothing wrong: got %v", f.name, results[last])
		}
		if last > 0 && reflect.ValueOf(results[0]).IsZero() {
			t.Errorf("%s with nothing wrong: got nothing", f.name)
		}
	}
}

// behind puts junk into the memory of a list after its length.
func behind[T any](l []T, junk T) []T {
	return append(slices.Clone(l), junk, junk)[:len(l)]
}

// junked is an input that has junk in the memory after each list.
func junked() input {
	x := right()
	x.seeds, x.teams = behind(x.seeds, "e"), behind(x.teams, "w")
	x.winners, x.left = behind(x.winners, 6), behind(x.left, 5)
	x.rounds = behind(x.rounds, []string{"d"})
	for i := range x.rounds {
		x.rounds[i] = behind(x.rounds[i], "d")
	}
	x.home, x.away = behind(x.home, frac("99")), behind(x.away, frac("98"))
	x.weights, x.lots = behind(x.weights, 999), behind(x.lots, 5)
	x.h, x.more = behind(x.h, honour("4 1 c")), behind(x.more, honour("4 1 d"))
	return x
}

// written writes an input with all that is in its memory, also after the length of its lists.
func (x input) written() string {
	s := fmt.Sprintf("%q %q %v %v", x.seeds[:cap(x.seeds)], x.teams[:cap(x.teams)], x.winners[:cap(x.winners)], x.left[:cap(x.left)])
	for _, l := range x.rounds[:cap(x.rounds)] {
		s += fmt.Sprintf(" %q", l[:cap(l)])
	}
	s += fmt.Sprint(" ", x.home[:cap(x.home)], x.away[:cap(x.away)], x.weights[:cap(x.weights)], x.lots[:cap(x.lots)])
	return s + fmt.Sprint(" ", x.h[:cap(x.h)], x.more[:cap(x.more)])
}

// fill puts a value at all places of a list's memory.
func fill[T any](l []T, x T) {
	for i := range l[:cap(l)] {
		l[:cap(l)][i] = x
	}
}

// scribble changes all that results have in their memory.
func scribble(results []any) {
	for _, r := range results {
		switch l := r.(type) {
		case []string:
			fill(l, "scribble")
		case []api.Pair2:
			fill(l, api.Pair2{High: 99})
		case []api.Honour:
			fill(l, api.Honour{Team: "scribble"})
		case []api.Pair:
			fill(l, api.Pair{Name: "scribble"})
		}
	}
}

// Z2: arguments are neither modified nor kept, results are new memory, and what is after a list's length is not looked at.
func TestMemory(t *testing.T) {
	for _, f := range functions() {
		want := fmt.Sprint(f.call(right()))
		x := junked()
		before := x.written()
		results := f.call(x)
		equal(t, f.name+" with junk behind lists", fmt.Sprint(results), want)
		scribble(results)
		equal(t, f.name+": its arguments", x.written(), before)
		equal(t, f.name+" after its results were changed", fmt.Sprint(f.call(x)), want)
	}
	// Nothing is drawn, picked twice or merged, but the lists are new ones all the same.
	x := junked()
	before := x.written()
	order, e := Draw(x.teams, x.weights, nil, 0)
	equal(t, "Draw", e, api.OK)
	turns, e := Snake(x.seeds, 1)
	equal(t, "Snake", e, api.OK)
	one, e := Merge(x.h, nil)
	equal(t, "Merge", e, api.OK)
	other, e := Merge(nil, x.h)
	equal(t, "Merge", e, api.OK)
	scribble([]any{order, turns, one, other})
	equal(t, "arguments", x.written(), before)
}

// Z5: an empty and a nil list are the same.
func TestEmptyLists(t *testing.T) {
	none := input{many: 2, one: 1, other: 2, place: 1, turns: 1, least: 1}
	empty := none
	empty.seeds, empty.teams, empty.rounds = []string{}, []string{}, [][]string{}
	empty.winners, empty.left, empty.weights, empty.lots = []int{}, []int{}, []int{}, []int{}
	empty.home, empty.away = []api.Fraction{}, []api.Fraction{}
	empty.h, empty.more = []api.Honour{}, []api.Honour{}
	errors := map[string]api.Errno{
		"CheckSeeds": api.ErrNone, "Play": api.ErrNone, "Snake": api.ErrNone, "Anew": api.ErrNone, "Fixed": api.ErrForm,
		"CheckWeights": api.ErrNone, "Draw": api.ErrNone, "Chance": api.ErrNone, "Fall": api.ErrNone,
	}
	for _, f := range functions() {
		results := f.call(none)
		equal(t, f.name, fmt.Sprint(f.call(empty)), fmt.Sprint(results))
		equal(t, f.name, results[len(results)-1].(api.Errno), errors[f.name])
	}
	// Lists in which only an inner one, or one of several, is empty.
	_, e := Play(strings.Fields("a b"), [][]string{{}})
	equal(t, "Play", e, api.ErrForm)
	order, e := Draw(strings.Fields("a"), numbers("1"), []int{}, 0)
	equal(t, "Draw", e, api.OK)
	list(t, "Draw", order, strings.Fields("a"))
	equal(t, "CheckWeights", CheckWeights(strings.Fields("a"), []int{}), api.ErrForm)
}

// tooMany returns right inputs, in each of which one list has so many elements.
func tooMany(many int) []input {
	var all []input
	for field := range 12 {
		x := right()
		switch field {
		case 0:
			x.seeds = keys(many)
		case 1:
			x.winners = make([]int, many)
		case 2:
			x.left = upTo(many)
		case 3:
			x.rounds = make([][]string, many)
		case 4:
			x.rounds[0] = keys(many)
		case 5:
			x.rounds[1] = slices.Repeat([]string{"c"}, many)
		case 6:
			x.home = make([]api.Fraction, many)
			x.away = x.home
		case 7:
			x.teams = keys(many)
		case 8:
			x.weights = make([]int, many)
		case 9:
			x.lots = make([]int, many)
		case 10:
			x.h = make([]api.Honour, many)
		case 11:
			x.more = slices.Repeat(x.h[:1], many)
		}
		all = append(all, x)
	}
	return all
}

// Z1 and Z6: every call returns, whatever its numbers and however large its arguments are.
func TestAnyArguments(t *testing.T) {
	all := tooMany(200_000)
	for _, n := range []int{math.MinInt, -1, 0, 1, math.MaxInt} {
		for field := range 18 {
			x := right()
			*[]*int{
				&x.many, &x.winners[0], &x.winners[3], &x.left[0], &x.left[2], &x.one, &x.other, &x.home[0].Num, &x.home[0].Den, &x.away[1].Num, &x.away[1].Den,
				&x.weights[0], &x.lots[0], &x.top, &x.place, &x.turns, &x.least, &x.h[1].Season,
			}[field] = n
			all = append(all, x)
		}
		for field := range 4 {
			x := right()
			*[]*int{&x.h[0].Season, &x.h[0].Place, &x.h[0].Points.Num, &x.h[0].Points.Den}[field] = n
			all = append(all, x)
		}
	}
	for _, text := range []string{"", "-", " ", "\n", "\xff", "1/1", "1 1 a 1/1\n", strings.Repeat("a", 200_000)} {
		for field := range 7 {
			x := right()
			*[]*string{&x.seeds[1], &x.rounds[0][0], &x.rounds[1][0], &x.teams[0], &x.team, &x.h[0].Team, &x.more[1].Team}[field] = text
			x.txt = strings.Repeat(text, 200_000/max(len(text), 1))
			all = append(all, x)
		}
	}
	for _, x := range all {
		for _, f := range functions() {
			first := fmt.Sprint(f.call(x))
			equal(t, f.name, fmt.Sprint(f.call(x)), first)
		}
	}
}

// Z1 and Z7: any number of goroutines can call at once, and the same arguments give the same results.
func TestSameResults(t *testing.T) {
	x := right()
	x.seeds, x.many, x.turns = keys(api.MaxTeams), api.MaxTeams, api.MaxRoster
	x.winners, x.left = numbers("1 17 8 9 4 20 5 12 2 18 7 10 3 19 6 11"), upTo(api.MaxTeams)
	x.rounds = nil
	for games := 16; games > 0; games /= 2 {
		var names []string
		for _, seed := range flat(games) {
			names = append(names, key(seed-1))
		}
		x.rounds = append(x.rounds, names)
	}
	x.teams, x.weights, x.team = keys(api.MaxLots), manyWeights(api.MaxLots), key(7)
	x.lots, x.top, x.place = []int{math.MaxInt, 9_999, 0, 12_345}, 4, 3
	x.h = nil
	for season := range api.MaxSeasons {
		x.h = append(x.h, api.Honour{Season: season + 1, Place: 1, Team: key(season * season % 37), Points: frac("1/4")})
	}
	x.more = x.h[50:]
	x.txt, _ = Text(x.h)
	for _, f := range functions() {
		first := f.call(x)
		equal(t, f.name, first[len(first)-1].(api.Errno), api.OK)
		want := fmt.Sprint(first)
		results := make([]string, 20)
		var all sync.WaitGroup
		for i := range results {
			all.Go(func() { results[i] = fmt.Sprint(f.call(x)) })
		}
		all.Wait()
		for _, got := range results {
			equal(t, f.name, got, want)
		}
	}
}

// Z9: strings are compared byte by byte: keys that are alike are other ones, and their order does not matter.
func TestBytes(t *testing.T) {
	bytes := strings.Fields("ka k_ k0 k- k")
	equal(t, "CheckSeeds", CheckSeeds(bytes), api.OK)
	equal(t, "CheckWeights", CheckWeights(bytes, numbers("1 1 1 1 1")), api.OK)
	reached, e := Play(bytes, [][]string{{"ka", "k", "k_", "k0"}, {"k", "k_"}, {"k"}})
	equal(t, "Play", e, api.OK)
	list(t, "Play", reached, strings.Fields("k k_ ka k0 k-"))
	order, e := Draw(bytes, numbers("1 1 1 1 1"), numbers("4 4"), 2)
	equal(t, "Draw", e, api.OK)
	list(t, "Draw", order, strings.Fields("k ka k_ k0 k-"))
	titles, e := Titles(champions("k k- k0 k_ ka k"))
	equal(t, "Titles", e, api.OK)
	list(t, "Titles", titles, pairs("k:2 k-:1 k0:1 k_:1 ka:1"))
	dynasties, e := Dynasties(champions("k k- k- k"), 1)
	equal(t, "Dynasties", e, api.OK)
	list(t, "Dynasties", dynasties, pairs("k:1-1 k-:2-3 k:4-4"))
}
