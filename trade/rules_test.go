package trade

import (
	"fmt"
	"math"
	"reflect"
	"slices"
	"strings"
	"sync"
	"testing"

	"benchwarmer/api"
)

// input has an argument for each part of the functions' arguments.
type input struct {
	m                 api.Market
	o                 []api.Owner
	x                 api.Offer
	l                 []api.Offer
	a, other          []api.Answer
	team, player, txt string
	w                 []api.Wants
	at                int
}

// right is an input with which nothing is wrong.
func right() input {
	return input{
		m:      market(),
		o:      owners("p:a q:b r:c s:c t:d"),
		x:      offerOf("x a 0 9 p:a:b q:b:a"),
		l:      offers("i a 0 90 p:a:b q:b:a", "j c 0 90 r:c:a s:c:a", "k a 10 90 p:a:d"),
		a:      answers("1 i b yes", "3 i c veto", "20 j a yes", "21 k d yes"),
		other:  answers("2 j b no", "3 i c veto", "25 j a back"),
		team:   "d",
		player: "q",
		txt:    "offer i a 0 90\ngive p a b\n",
		w:      wants("p q r", "q r p", "r q", "s t", "t s"),
		at:     15,
	}
}

// spoiled makes a part wrong, and says with which error.
func spoiled(part string, x *input) api.Errno {
	switch part {
	case "market":
		x.m.Teams = nil
		return api.ErrNone
	case "owners":
		x.o = owners("p:a q:a r:a s:a")
		return api.ErrFull
	case "offer":
		x.x.Id = "X"
		return api.ErrName
	case "possible":
		x.x.Gives = []api.Give{giveOf("p:a:b"), giveOf("z:b:a")}
		return api.ErrState
	case "offers":
		x.l = offers("i a 0 9 p:a:a")
		return api.ErrRule
	case "answers":
		x.a = answers("1 i b ?")
		return api.ErrKind
	case "other":
		x.other = make([]api.Answer, api.MaxAnswers+1)
		return api.ErrLarge
	case "conflict":
		x.other = answers("1 i b no")
		return api.ErrConflict
	case "team":
		x.team = "e"
		return api.ErrNone
	case "player":
		x.player = "z"
		return api.ErrNone
	case "wants":
		x.w = wants("p q q")
		return api.ErrTwice
	case "txt":
		x.txt = "give p a b\n"
		return api.ErrSyntax
	case "moment":
		x.at = api.End
	}
	return api.ErrArg
}

// function is a function of the chapter: call returns its results, the error last; order is in which order parts are asked for.
type function struct {
	name, order string
	call        func(x input) []any
}

// made puts results into a list; the error of a Check is alone.
func made(results ...any) []any { return results }

func functions() []function {
	return []function{
		{"CheckMarket", "market", func(x input) []any { return made(CheckMarket(x.m)) }},
		{"CheckOwners", "market owners", func(x input) []any { return made(CheckOwners(x.m, x.o)) }},
		{"CheckOffers", "market offers", func(x input) []any { return made(CheckOffers(x.m, x.l)) }},
		{"CheckAnswers", "market answers", func(x input) []any { return made(CheckAnswers(x.m, x.a)) }},
		{"Merge", "market answers other", func(x input) []any { return made(Merge(x.m, x.a, x.other)) }},
		{"Merge", "market answers conflict", func(x input) []any { return made(Merge(x.m, x.a, x.other)) }},
		{"Concerned", "market offer", func(x input) []any { return made(Concerned(x.m, x.x)) }},
		{"Can", "market owners offer", func(x input) []any { return made(Can(x.m, x.o, x.x)) }},
		{"Did", "market owners offer possible", func(x input) []any { return made(Did(x.m, x.o, x.x)) }},
		{"Stages", "market owners offers answers moment", func(x input) []any { return made(Stages(x.m, x.o, x.l, x.a, x.at)) }},
		{"Owners", "market owners offers answers moment", func(x input) []any { return made(Owners(x.m, x.o, x.l, x.a, x.at)) }},
		{"Waits", "market owners offers answers team moment", func(x input) []any { return made(Waits(x.m, x.o, x.l, x.a, x.team, x.at)) }},
		{"Clash", "market owners offers", func(x input) []any { return made(Clash(x.m, x.o, x.l)) }},
		{"Way", "market owners offers answers moment", func(x input) []any { return made(Way(x.m, x.l, x.player, x.o, x.a, x.at)) }},
		{"Way", "market offers answers player moment", func(x input) []any { return made(Way(x.m, x.l, x.player, x.o, x.a, x.at)) }},
		{"CheckWants", "market owners wants", func(x input) []any { return made(CheckWants(x.m, x.o, x.w)) }},
		{"Rings", "market owners wants", func(x input) []any { return made(Rings(x.m, x.o, x.w)) }},
		{"Most", "market owners wants", func(x input) []any { return made(Most(x.m, x.o, x.w)) }},
		{"Text", "market offers", func(x input) []any { return made(Text(x.m, x.l)) }},
		{"Read", "market txt", func(x input) []any { return made(Read(x.m, x.txt)) }},
	}
}

// Z3 and Z4: errors come in their order, and with them all other results are zero values.
func TestErrorsInOrder(t *testing.T) {
	for _, f := range functions() {
		parts := strings.Fields(f.order)
		for i := range parts {
			x := right()
			var want api.Errno
			for _, part := range slices.Backward(parts[i:]) {
				want = spoiled(part, &x)
			}
			results := f.call(x)
			last := len(results) - 1
			if results[last] != want {
				t.Errorf("%s with wrong %v: got %v, want %v", f.name, parts[i:], results[last], want)
			}
			for _, r := range results[:last] {
				if v := reflect.ValueOf(r); !v.IsZero() && !(v.Kind() == reflect.Slice && v.Len() == 0) {
					t.Errorf("%s with wrong %v: got %v beside the error", f.name, parts[i:], r)
				}
			}
		}
		results := f.call(right())
		last := len(results) - 1
		if results[last] != api.OK {
			t.Errorf("%s with nothing wrong: got %v", f.name, results[last])
		}
		if last > 0 && reflect.ValueOf(results[0]).IsZero() {
			t.Errorf("%s with nothing wrong: got nothing", f.name)
		}
	}
}

// behind puts junk into the memory of a list after its length.
func behind[T any](l []T, junk T) []T {
	return append(slices.Clone(l), junk, junk)[:len(l)]
}

// junked is an input that has junk in the memory after each list.
func junked() input {
	x := right()
	x.m.Teams, x.o = behind(x.m.Teams, "e"), behind(x.o, owners("u:d")[0])
	x.x.Gives = behind(x.x.Gives, giveOf("r:c:a"))
	for i := range x.l {
		x.l[i].Gives = behind(x.l[i].Gives, giveOf("t:d:a"))
	}
	x.l = behind(x.l, offerOf("l a 0 9 p:a:b"))
	x.a, x.other = behind(x.a, answers("22 j a no")[0]), behind(x.other, answers("26 i a no")[0])
	for i := range x.w {
		x.w[i].For = behind(x.w[i].For, "t")
	}
	x.w = behind(x.w, wants("u p")[0])
	return x
}

// written writes an input with all that is in its memory, also after the length of its lists.
func written(x input) string {
	var b strings.Builder
	fmt.Fprintf(&b, "%+v %q %+v\n", x.m, x.m.Teams[:cap(x.m.Teams)], x.o[:cap(x.o)])
	for _, y := range append([]api.Offer{x.x}, x.l[:cap(x.l)]...) {
		fmt.Fprintf(&b, "%+v %+v\n", y, y.Gives[:cap(y.Gives)])
	}
	fmt.Fprintf(&b, "%+v\n%+v\n", x.a[:cap(x.a)], x.other[:cap(x.other)])
	for _, y := range x.w[:cap(x.w)] {
		fmt.Fprintf(&b, "%+v %q\n", y, y.For[:cap(y.For)])
	}
	return b.String()
}

// fill puts a value at all places of a list's memory.
func fill[T any](l []T, x T) {
	for i := range l[:cap(l)] {
		l[:cap(l)][i] = x
	}
}

// scribble changes all that results have in their memory.
func scribble(results []any) {
	for _, r := range results {
		switch l := r.(type) {
		case []string:
			fill(l, "scribble")
		case []api.Answer:
			fill(l, api.Answer{Offer: "scribble"})
		case []api.Owner:
			fill(l, api.Owner{Player: "scribble"})
		case []api.Stage:
			fill(l, api.Stage{Offer: "scribble"})
		case []api.Pair:
			fill(l, api.Pair{Name: "scribble"})
		case []api.Give:
			fill(l, api.Give{Player: "scribble"})
		case [][]string:
			for _, x := range l {
				fill(x, "scribble")
			}
			fill(l, nil)
		case []api.Offer:
			for _, x := range l {
				fill(x.Gives, api.Give{Player: "scribble"})
			}
			fill(l, api.Offer{Id: "scribble"})
		}
	}
}

// Z2: arguments are neither modified nor kept, results are new memory, and what is after a list's length is not looked at.
func TestMemory(t *testing.T) {
	for _, f := range functions() {
		want := fmt.Sprint(f.call(right()))
		x := junked()
		before := written(x)
		results := f.call(x)
		equal(t, f.name+" with junk behind lists", fmt.Sprint(results), want)
		scribble(results)
		equal(t, f.name+": its arguments", written(x), before)
		equal(t, f.name+" after its results were changed", fmt.Sprint(f.call(x)), want)
	}
}

// Z2: the lists of one result share no memory.
func TestResultsApart(t *testing.T) {
	rings := func() [][]string {
		r, _ := Rings(market(), owners("p:a q:b r:c s:d"), wants("p q", "q p", "r s", "s r"))
		return r
	}
	equal(t, "rings", ringed(rings()), "p q, r s")
	l := rings()
	fill(l[0], "scribble")
	_ = append(l[0], "scribble")
	list(t, "rings", l[1], []string{"r", "s"})
	read := func() []api.Offer {
		l, _, _ := Read(market(), "offer i a 0 9\ngive p a b\noffer j a 0 9\ngive p a b\n")
		return l
	}
	equal(t, "offers", shown(read()), "i a 0 9 p:a:b,j a 0 9 p:a:b,")
	for i := range 2 {
		l := read()
		fill(l[i].Gives, api.Give{})
		_ = append(l[i].Gives, api.Give{})
		list(t, "gives", l[1-i].Gives, []api.Give{giveOf("p:a:b")})
	}
}

// Z5: an empty and a nil list are the same.
func TestEmptyLists(t *testing.T) {
	none := input{m: market(), o: owners("p:a"), x: offerOf("x a 0 9 p:a:b"), team: "a", player: "p"}
	empty := none
	empty.l, empty.a, empty.other, empty.w = []api.Offer{}, []api.Answer{}, []api.Answer{}, []api.Wants{}
	for _, f := range functions() {
		results := f.call(none)
		equal(t, f.name, fmt.Sprint(f.call(empty)), fmt.Sprint(results))
		equal(t, f.name, results[len(results)-1].(api.Errno), api.OK)
	}
	for _, x := range []input{{}, {m: api.Market{Teams: []string{}}}} {
		equal(t, "no teams", CheckMarket(x.m), api.ErrNone)
	}
	for _, o := range [][]api.Owner{nil, {}} {
		equal(t, "no owners", CheckOwners(market(), o), api.OK)
	}
	for _, gives := range [][]api.Give{nil, {}} {
		equal(t, "no gives", CheckOffers(market(), []api.Offer{{Id: "o", By: "a", Time: api.Window{To: 1}, Gives: gives}}), api.ErrNone)
	}
	for _, players := range [][]string{nil, {}} {
		w := []api.Wants{{Player: "p", For: players}}
		equal(t, "For nobody", CheckWants(market(), owners("p:a"), w), api.OK)
		rings, e := Rings(market(), owners("p:a"), w)
		equal(t, "For nobody", len(rings), 0)
		equal(t, "For nobody", e, api.OK)
	}
}

// Z1 and Z6: every call returns, whatever its numbers and however large its arguments are.
func TestAnyArguments(t *testing.T) {
	var all []input
	for _, n := range []int{math.MinInt, -1, 0, 1, math.MaxInt} {
		for field := range 13 {
			x := right()
			*[]*int{
				&x.m.Vetoes, &x.m.Wait, &x.m.Deadline, &x.m.Least, &x.m.Most, &x.x.Time.From, &x.x.Time.To,
				&x.l[1].Time.From, &x.l[1].Time.To, &x.a[1].At, &x.a[1].Kind, &x.other[1].Kind, &x.at,
			}[field] = n
			all = append(all, x)
		}
	}
	for _, text := range []string{"", "-", " ", "\n", "\xff", "give p a b\n", "offer i a 0 9\ngive p a b\n", strings.Repeat("a", 200_000)} {
		for field := range 19 {
			x := right()
			*[]*string{
				&x.m.Teams[1], &x.o[1].Player, &x.o[1].Team, &x.x.Id, &x.x.By, &x.x.Gives[0].Player, &x.x.Gives[0].From, &x.x.Gives[0].To,
				&x.l[1].Id, &x.l[1].By, &x.l[1].Gives[0].Player, &x.l[1].Gives[0].From, &x.l[1].Gives[0].To,
				&x.a[1].Offer, &x.a[1].Team, &x.team, &x.player, &x.w[1].Player, &x.w[1].For[0],
			}[field] = text
			x.txt = strings.Repeat(text, 200_000/max(len(text), 1))
			all = append(all, x)
		}
	}
	for _, x := range append(all, largeInputs()...) {
		for _, f := range functions() {
			first := fmt.Sprint(f.call(x))
			equal(t, f.name, fmt.Sprint(f.call(x)), first)
		}
	}
}

// largeInputs has one input with all lists as long as they may be given, and for each list one with this list alone.
func largeInputs() []input {
	const many = 200_000
	large := input{
		m: widest(), o: make([]api.Owner, many), l: make([]api.Offer, many), a: make([]api.Answer, many),
		other: make([]api.Answer, many), w: make([]api.Wants, many), x: manyOffers(1, many)[0],
	}
	all := []input{large}
	for field := range 9 {
		x := right()
		switch field {
		case 0:
			x.m.Teams = keys(many)
		case 1:
			x.o = large.o
		case 2:
			x.l = large.l
		case 3:
			x.a = large.a
		case 4:
			x.other = large.other
		case 5:
			x.w = large.w
		case 6:
			x.x.Gives = large.x.Gives
		case 7:
			x.l[0].Gives = large.x.Gives
		case 8:
			x.w[0].For = keys(many)
		}
		all = append(all, x)
	}
	return all
}

// Z1 and Z7: any number of goroutines can call at once, and the same arguments give the same results.
func TestSameResults(t *testing.T) {
	x := right()
	x.m, x.o, x.w = widest(), manyOwners(api.MaxPlayers), manyWants(maxMost, maxFor)
	x.l, x.x = manyOffers(60, 5), manyOffers(1, api.MaxGives)[0]
	x.m.Wait, x.a, x.other = 3, manyAnswers(api.MaxAnswers, api.AnswerYes), nil
	x.team, x.player, x.at = key(1), key(0), api.End-1
	x.txt, _ = Text(x.m, x.l)
	for _, f := range functions() {
		want := fmt.Sprint(f.call(x))
		results := make([]string, 20)
		var all sync.WaitGroup
		for i := range results {
			all.Go(func() { results[i] = fmt.Sprint(f.call(x)) })
		}
		all.Wait()
		for _, got := range results {
			equal(t, f.name, got, want)
		}
	}
}

// Z9: strings are compared byte by byte, also where teams, owners, offers, answers and wants are put in order.
func TestBytes(t *testing.T) {
	bytes := strings.Fields("k k- k0 k_ ka")
	m := market()
	for i, one := range bytes {
		for j, other := range bytes {
			want := api.ErrOrder
			if i < j {
				want = api.OK
			}
			m.Teams = []string{one, other}
			equal(t, "CheckMarket", CheckMarket(m), want)
			equal(t, "CheckOwners", CheckOwners(market(), owners(one+":a "+other+":b")), want)
			equal(t, "CheckOffers", CheckOffers(market(), offers(one+" a 0 9 p:a:b", other+" a 0 9 p:a:b")), want)
			equal(t, "Gives", CheckOffers(market(), offers("o a 0 9 "+one+":a:b "+other+":a:b")), want)
			equal(t, "CheckAnswers", CheckAnswers(market(), answers("0 "+one+" a yes", "0 "+other+" a yes")), want)
			if i != j {
				o := owners(bytes[min(i, j)] + ":a " + bytes[max(i, j)] + ":b")
				equal(t, "CheckWants", CheckWants(market(), o, wants(one, other)), want)
			}
			if i < j {
				m.Teams = []string{one, other}
				equal(t, "CheckAnswers by Team", CheckAnswers(m, answers("0 o "+one+" yes", "0 o "+other+" yes")), api.OK)
				equal(t, "CheckAnswers by Team", CheckAnswers(m, answers("0 o "+other+" yes", "0 o "+one+" yes")), api.ErrOrder)
			}
		}
	}
	m.Teams = bytes
	teams, e := Concerned(m, offerOf("o ka 0 9 p:ka:k_ q:k0:k- r:k:ka"))
	equal(t, "Concerned", e, api.OK)
	list(t, "Concerned", teams, bytes)
	o, e := Did(market(), owners("k:a k-:b k0:c k_:d ka:a"), offerOf("o a 0 9 k:a:b ka:a:c"))
	equal(t, "Did", e, api.OK)
	equal(t, "Did", held(o), "k:b k-:b k0:c k_:d ka:c")
	gives, e := Most(market(), owners("k:a k-:b k0:c k_:d ka:a"), wants("k k-", "k- k0", "k0 k_", "k_ ka", "ka k_ k-"))
	equal(t, "Most", e, api.OK)
	equal(t, "Most", given(gives), "k-:b:a k0:c:b k_:d:c ka:a:d")
}
