package value

import (
	"fmt"
	"math"
	"reflect"
	"slices"
	"strings"
	"sync"
	"testing"

	"benchwarmer/api"
)

// input has an argument for each part of the functions' arguments.
type input struct {
	l, other   []api.Asset
	p          []api.Place
	teams      int
	budget     int
	further    api.Asset
	give, take []string
	size       int
	h, against []api.Hope
	points     int
	x, y       api.Hope // the new one and the old one of Better
	txt        string
}

// right is an input with which nothing is wrong.
func right() input {
	return input{
		l:       assets("a gk 10,b gk 8,c gk 5,d gk 3"),
		other:   assets("e df 7,f df 6,g gk 1"),
		p:       places("df:1 gk:1"),
		teams:   2,
		budget:  10,
		further: asset("z gk 12"),
		give:    []string{"b", "d"},
		take:    []string{"e"},
		size:    2,
		h:       hopes("h 0:1 2:1,i 0:1 1:1"),
		against: hopes("j 0:1 2:2"),
		points:  2,
		x:       hope("k 3:1"),
		y:       hope("i 0:1 1:1"),
		txt:     "a gk 10\nb df -3\n",
	}
}

// tooWide are hopes of one sum too many.
func tooWide() []api.Hope {
	return more(spreadOut(), "0:1 1:1")
}

// spoiled makes a part wrong, and says with which error.
func spoiled(part string, x *input) api.Errno {
	switch part {
	case "assets":
		x.l = assets("b gk 1,a gk 1")
		return api.ErrOrder
	case "other":
		x.other = assets("e df 1000001")
		return api.ErrArg
	case "places":
		x.p = places("DF:1")
		return api.ErrName
	case "poor":
		x.budget = 0
		return api.ErrFull
	case "further":
		x.further.Value = api.MaxValue + 1
		return api.ErrArg
	case "there":
		x.further.Player = x.l[0].Player
		return api.ErrTwice
	case "full":
		x.l = manyAssets(api.MaxAssets)
		return api.ErrFull
	case "both":
		x.other = x.l[:1]
		return api.ErrTwice
	case "give":
		x.give[1] = "e"
		return api.ErrNone
	case "take":
		x.take = []string{"e", "e"}
		return api.ErrTwice
	case "many":
		x.l = manyAssets(maxTraders + 1)
		return api.ErrLarge
	case "hopes":
		x.h = hopes("i 0:1,h 0:1")
		return api.ErrOrder
	case "against":
		x.against = hopes("J 0:1")
		return api.ErrName
	case "wide":
		x.h = append([]api.Hope{x.y}, tooWide()...)
		return api.ErrFull
	case "wider":
		x.x.Outcomes = outcomes("0:1 1:1")
		x.y = hope("i 0:1")
		x.h = append([]api.Hope{x.y}, spreadOut()...)
		return api.ErrFull
	case "new":
		x.x.Outcomes = nil
		return api.ErrNone
	case "old":
		x.y.Outcomes = make([]api.Outcome, api.MaxOutcomes+1)
		return api.ErrLarge
	case "none":
		x.y = hope("i 7:1")
		return api.ErrNone
	case "twice":
		x.x = hope("j 3:1")
		return api.ErrTwice
	case "txt":
		x.txt = "a gk\n"
		return api.ErrSyntax
	case "teams":
		x.teams = api.MaxTeams + 1
	case "budget":
		x.budget = -1
	case "size":
		x.size = 3
	case "points":
		x.points = maxAbove + 1
	}
	return api.ErrArg
}

// function is a function of the chapter: call returns its results, the error last; order is in which order parts are asked for.
type function struct {
	name, order string
	call        func(x input) []any
}

// made puts results into a list; the error of a Check is alone.
func made(results ...any) []any { return results }

func functions() []function {
	return []function{
		{"CheckAssets", "assets", func(x input) []any { return made(CheckAssets(x.l)) }},
		{"CheckPlaces", "places", func(x input) []any { return made(CheckPlaces(x.p)) }},
		{"Levels", "assets places teams", func(x input) []any { return made(Levels(x.l, x.p, x.teams)) }},
		{"Worths", "assets places teams", func(x input) []any { return made(Worths(x.l, x.p, x.teams)) }},
		{"Prices", "assets places teams budget poor", func(x input) []any { return made(Prices(x.l, x.p, x.teams, x.budget)) }},
		{"Fielded", "assets places", func(x input) []any { return made(Fielded(x.l, x.p)) }},
		{"Brings", "assets places further there full", func(x input) []any { return made(Brings(x.l, x.p, x.further)) }},
		{"Drop", "assets places", func(x input) []any { return made(Drop(x.l, x.p)) }},
		{"Swap", "assets other places both give take", func(x input) []any { return made(Swap(x.l, x.other, x.p, x.give, x.take)) }},
		{"BestSwap", "assets other places both size many", func(x input) []any { return made(BestSwap(x.l, x.other, x.p, x.size)) }},
		{"CheckHopes", "hopes", func(x input) []any { return made(CheckHopes(x.h)) }},
		{"Mean", "hopes wide", func(x input) []any { return made(Mean(x.h)) }},
		{"Spread", "hopes wide", func(x input) []any { return made(Spread(x.h)) }},
		{"Chances", "hopes against wide", func(x input) []any { return made(Chances(x.h, x.against)) }},
		{"Above", "hopes wide points", func(x input) []any { return made(Above(x.h, x.points)) }},
		{"Better", "hopes against new old none twice wide wider", func(x input) []any { return made(Better(x.h, x.against, x.x, x.y)) }},
		{"Text", "assets", func(x input) []any { return made(Text(x.l)) }},
		{"Read", "txt", func(x input) []any { return made(Read(x.txt)) }},
	}
}

// Z3 and Z4: errors come in their order, and with them all other results are zero values.
func TestErrorsInOrder(t *testing.T) {
	for _, f := range functions() {
		parts := strings.Fields(f.order)
		for i := range parts {
			x := right()
			var want api.Errno
			for _, part := range slices.Backward(parts[i:]) {
				want = spoiled(part, &x)
			}
			results := f.call(x)
			last := len(results) - 1
			if results[last] != want {
				t.Errorf("%s with wrong %v: got %v, want %v", f.name, parts[i:], results[last], want)
			}
			for _, r := range results[:last] {
				if v := reflect.ValueOf(r); !v.IsZero() && !(v.Kind() == reflect.Slice && v.Len() == 0) {
					t.Errorf("%s with wrong %v: got %v beside the error", f.name, parts[i:], r)
				}
			}
		}
		results := f.call(right())
		last := len(results) - 1
		if results[last] != api.OK {
			t.Errorf("%s with nothing wrong: got %v", f.name, results[last])
		}
		if last > 0 && reflect.ValueOf(results[0]).IsZero() {
			t.Errorf("%s with nothing wrong: got nothing", f.name)
		}
	}
}

// behind puts junk into the memory of a list after its length.
func behind[T any](l []T, junk T) []T {
	return append(slices.Clone(l), junk, junk)[:len(l)]
}

// junkedHopes have junk in the memory after each list.
func junkedHopes(h []api.Hope) []api.Hope {
	junked := behind(h, hope("z 9:9"))
	for i := range junked {
		junked[i].Outcomes = behind(junked[i].Outcomes, api.Outcome{Points: 99, Weight: 99})
	}
	return junked
}

// junked is an input that has junk in the memory after each list.
func junked() input {
	x := right()
	x.l = behind(x.l, asset("m gk 99"))
	x.other = behind(x.other, asset("n df 99"))
	x.p = behind(x.p, api.Place{Position: "mf", Many: 9})
	x.give = behind(x.give, "a")
	x.take = behind(x.take, "f")
	x.h, x.against = junkedHopes(x.h), junkedHopes(x.against)
	x.x.Outcomes = behind(x.x.Outcomes, api.Outcome{Points: 99, Weight: 99})
	x.y.Outcomes = behind(x.y.Outcomes, api.Outcome{Points: 99, Weight: 99})
	return x
}

// written writes an input with all that is in its memory, also after the length of its lists.
func (x input) written() string {
	s := fmt.Sprintf("%v %v %v %q %q", x.l[:cap(x.l)], x.other[:cap(x.other)], x.p[:cap(x.p)], x.give[:cap(x.give)], x.take[:cap(x.take)])
	for _, h := range slices.Concat(x.h[:cap(x.h)], x.against[:cap(x.against)], []api.Hope{x.x, x.y}) {
		s += fmt.Sprint(" ", h.Player, h.Outcomes[:cap(h.Outcomes)])
	}
	return s
}

// fill puts a value at all places of a list's memory.
func fill[T any](l []T, x T) {
	for i := range l[:cap(l)] {
		l[:cap(l)][i] = x
	}
}

// scribble changes all that results have in their memory.
func scribble(results []any) {
	for _, r := range results {
		switch l := r.(type) {
		case []string:
			fill(l, "scribble")
		case []api.Asset:
			fill(l, api.Asset{Player: "scribble"})
		case []api.Pair:
			fill(l, api.Pair{Name: "scribble"})
		case []api.Over:
			fill(l, api.Over{Player: "scribble"})
		case []api.Outcome:
			fill(l, api.Outcome{Points: 99})
		}
	}
}

// Z2: arguments are neither modified nor kept, results are new memory, and what is after a list's length is not looked at.
func TestMemory(t *testing.T) {
	for _, f := range functions() {
		want := fmt.Sprint(f.call(right()))
		x := junked()
		before := x.written()
		results := f.call(x)
		equal(t, f.name+" with junk behind lists", fmt.Sprint(results), want)
		scribble(results)
		equal(t, f.name+": its arguments", x.written(), before)
		equal(t, f.name+" after its results were changed", fmt.Sprint(f.call(x)), want)
	}
	// One player with no others: what is returned is not the hope's own memory.
	h := hopes("a 0:1 2:1")
	l, e := Spread(h)
	equal(t, "Spread", e, api.OK)
	fill(l, api.Outcome{Points: 99})
	list(t, "Spread", h[0].Outcomes, outcomes("0:1 2:1"))
	// Lists of one result share no memory.
	give, take, _, e := BestSwap(right().l, right().other, right().p, 1)
	equal(t, "BestSwap", e, api.OK)
	want := slices.Clone(take)
	give = append(give, "scribble", "scribble")
	fill(give, "scribble")
	list(t, "BestSwap", take, want)
}

// Z5: an empty and a nil list are the same.
func TestEmptyLists(t *testing.T) {
	none := input{teams: 1, further: asset("z gk 1"), size: 1, x: hope("k 1:1"), y: hope("i 1:1")}
	empty := none
	empty.l, empty.other, empty.p = []api.Asset{}, []api.Asset{}, []api.Place{}
	empty.give, empty.take = []string{}, []string{}
	empty.h, empty.against = []api.Hope{}, []api.Hope{}
	for _, f := range functions() {
		results := f.call(none)
		equal(t, f.name, fmt.Sprint(f.call(empty)), fmt.Sprint(results))
		want := api.OK
		if f.name == "Better" {
			want = api.ErrNone
		}
		equal(t, f.name, results[len(results)-1].(api.Errno), want)
	}
	equal(t, "no outcomes", CheckHopes([]api.Hope{{Player: "a", Outcomes: []api.Outcome{}}}), api.ErrNone)
}

// tooMany returns right inputs, in each of which one list has so many elements.
func tooMany(many int) []input {
	var all []input
	for field := range 9 {
		x := right()
		switch field {
		case 0:
			x.l = manyAssets(many)
		case 1:
			x.other = manyAssets(many)
		case 2:
			x.p = make([]api.Place, many)
		case 3:
			x.give = slices.Repeat([]string{"b"}, many)
		case 4:
			x.take = make([]string, many)
		case 5:
			x.h = manyHopes(many, "0:1 1:1")
		case 6:
			x.against = manyHopes(many, "0:1 1:1")
		case 7:
			x.x.Outcomes = make([]api.Outcome, many)
		case 8:
			x.y.Outcomes = make([]api.Outcome, many)
		}
		all = append(all, x)
	}
	// Players of great lists can be given only if they are there.
	x := right()
	x.l = manyAssets(many)
	for _, a := range x.l {
		x.give = append(x.give, a.Player)
	}
	return append(all, x)
}

// Z1 and Z6: every call returns, whatever its numbers and however large its arguments are.
func TestAnyArguments(t *testing.T) {
	all := tooMany(200_000)
	for _, n := range []int{math.MinInt, -1, 0, 1, math.MaxInt} {
		for field := range 12 {
			x := right()
			*[]*int{
				&x.l[0].Value, &x.other[2].Value, &x.p[1].Many, &x.teams, &x.budget, &x.further.Value,
				&x.size, &x.h[0].Outcomes[1].Points, &x.h[0].Outcomes[1].Weight, &x.points, &x.x.Outcomes[0].Points, &x.y.Outcomes[0].Weight,
			}[field] = n
			all = append(all, x)
		}
	}
	for _, text := range []string{"", "-", " ", "\n", "\xff", "a", "a gk 1\n", strings.Repeat("a", 200_000)} {
		for field := range 10 {
			x := right()
			*[]*string{
				&x.l[0].Player, &x.l[0].Position, &x.p[0].Position, &x.further.Player, &x.further.Position,
				&x.give[0], &x.take[0], &x.h[0].Player, &x.x.Player, &x.y.Player,
			}[field] = text
			x.txt = strings.Repeat(text, 200_000/max(len(text), 1))
			all = append(all, x)
		}
	}
	for _, x := range all {
		for _, f := range functions() {
			first := fmt.Sprint(f.call(x))
			equal(t, f.name, fmt.Sprint(f.call(x)), first)
		}
	}
}

// Z1 and Z7: any number of goroutines can call at once, and the same arguments give the same results.
func TestSameResults(t *testing.T) {
	x := right()
	x.l, x.other = nil, nil
	for i := range maxTraders {
		position := []string{"df", "gk", "mf"}[i%3]
		x.l = append(x.l, api.Asset{Player: key(i), Position: position, Value: 1 + i%4})
		x.other = append(x.other, api.Asset{Player: "l" + key(i)[1:], Position: position, Value: 1 + i%5})
	}
	x.p = places("df:1 gk:2 mf:3")
	x.give, x.take = []string{key(3), key(1)}, []string{"l" + key(7)[1:]}
	x.h, x.against = spreadOut(), manyHopes(8, "0:1 1:1 2:1")
	x.x, x.y = hope("s 0:1 7:1"), spreadOut()[5]
	x.txt, _ = Text(x.l)
	for _, f := range functions() {
		want := fmt.Sprint(f.call(x))
		results := make([]string, 20)
		var all sync.WaitGroup
		for i := range results {
			all.Go(func() { results[i] = fmt.Sprint(f.call(x)) })
		}
		all.Wait()
		for _, got := range results {
			equal(t, f.name, got, want)
		}
	}
}

// Z9: strings are compared byte by byte, also where players and positions are put in order.
func TestBytes(t *testing.T) {
	bytes := strings.Fields("k k- k0 k_ ka")
	for i, one := range bytes {
		for j, other := range bytes {
			want := api.ErrOrder
			if i < j {
				want = api.OK
			}
			equal(t, "CheckAssets", CheckAssets([]api.Asset{{Player: one, Position: "gk"}, {Player: other, Position: "gk"}}), want)
			equal(t, "CheckPlaces", CheckPlaces([]api.Place{{Position: one}, {Position: other}}), want)
			equal(t, "CheckHopes", CheckHopes([]api.Hope{{Player: one, Outcomes: outcomes("1:1")}, {Player: other, Outcomes: outcomes("1:1")}}), want)
		}
	}
	const all = "k gk 1,k- gk 1,k0 gk 1,k_ gk 1,ka gk 1"
	_, who, e := Fielded(assets(all), places("gk:4"))
	equal(t, "Fielded", e, api.OK)
	list(t, "Fielded", who, bytes[:4])
	s, _, e := Drop(assets(all), places("gk:4"))
	equal(t, "Drop", e, api.OK)
	equal(t, "Drop", s, "ka")
	w, e := Worths(assets(all), places("gk:4"), 1)
	equal(t, "Worths", e, api.OK)
	list(t, "Worths", w, overs("k:0:1 k-:0:1 k0:0:1 k_:0:1 ka:0:1"))
	give, take, _, e := BestSwap(assets("k gk 2,k- gk 2,ka gk 2"), assets("j df 2,j- df 2,j0 df 2"), places("df:1 gk:1"), 2)
	equal(t, "BestSwap", e, api.OK)
	list(t, "BestSwap", give, []string{"k"})
	list(t, "BestSwap", take, []string{"j"})
}
