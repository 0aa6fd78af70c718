package roster

import (
	"math"
	"math/rand/v2"
	"slices"
	"testing"

	"benchwarmer/api"
)

// P5.1: CheckBounds.
func TestCheckBounds(t *testing.T) {
	for _, x := range []struct {
		name  string
		spoil func(b *api.Bounds)
		want  api.Errno
	}{
		{"ordinary", func(b *api.Bounds) {}, api.OK},
		{"least", func(b *api.Bounds) { *b = api.Bounds{Most: 1} }, api.OK},
		{"greatest", func(b *api.Bounds) { *b = widest() }, api.OK},
		{"more hurt ones than others", func(b *api.Bounds) { b.Most, b.Hurt = 1, 20 }, api.OK},
		{"nothing", func(b *api.Bounds) { *b = api.Bounds{} }, api.ErrArg},
		{"no players", func(b *api.Bounds) { b.Most = 0 }, api.ErrArg},
		{"too many players", func(b *api.Bounds) { b.Most = api.MaxRoster + 1 }, api.ErrArg},
		{"hurt below 0", func(b *api.Bounds) { b.Hurt = -1 }, api.ErrArg},
		{"too many hurt", func(b *api.Bounds) { b.Hurt = api.MaxRoster + 1 }, api.ErrArg},
		{"adds below 0", func(b *api.Bounds) { b.Adds = -1 }, api.ErrArg},
		{"too many adds", func(b *api.Bounds) { b.Adds = api.MaxMoves + 1 }, api.ErrArg},
		{"hold below 0", func(b *api.Bounds) { b.Hold = -1 }, api.ErrArg},
		{"too long a hold", func(b *api.Bounds) { b.Hold = api.MaxHold + 1 }, api.ErrArg},
	} {
		b := bounds()
		x.spoil(&b)
		equal(t, x.name, CheckBounds(b), x.want)
	}
	for _, n := range []int{math.MinInt, math.MaxInt} {
		for field := range 4 {
			b := bounds()
			*[]*int{&b.Most, &b.Hurt, &b.Adds, &b.Hold}[field] = n
			equal(t, "extreme", CheckBounds(b), api.ErrArg)
		}
	}
}

// P5.1: CheckMoves.
func TestCheckMoves(t *testing.T) {
	long := key(0) + "k"
	for _, x := range []struct {
		name string
		l    []api.Move
		want api.Errno
	}{
		{"none", nil, api.OK},
		{"each kind", moves("0 add x p", "1 drop x p", "2 stash x p", "3 back x p"), api.OK},
		{"a team of the same name", moves("0 add p p"), api.OK},
		{"last moment", []api.Move{{At: api.End - 1, Kind: api.MoveAdd, Team: "x", Player: "p"}}, api.OK},
		{"longest names", []api.Move{{Kind: api.MoveAdd, Team: key(0), Player: key(0)}}, api.OK},
		{"by moment first", moves("0 back y q", "1 add x p"), api.OK},
		{"then by team", moves("1 back x q", "1 add y p"), api.OK},
		{"then by player", moves("1 back x p", "1 add x q"), api.OK},
		{"then by kind", moves("1 add x p", "1 drop x p", "1 stash x p", "1 back x p"), api.OK},
		{"nothing", []api.Move{{}}, api.ErrKind},
		{"moment below 0", moves("-1 no X P"), api.ErrArg},
		{"no moment", []api.Move{{At: api.End, Kind: api.MoveAdd, Team: "x", Player: "p"}}, api.ErrArg},
		{"least moment", []api.Move{{At: math.MinInt, Kind: api.MoveAdd, Team: "x", Player: "p"}}, api.ErrArg},
		{"greatest moment", []api.Move{{At: math.MaxInt, Kind: api.MoveAdd, Team: "x", Player: "p"}}, api.ErrArg},
		{"kind 0", moves("0 no X P"), api.ErrKind},
		{"kind 5", []api.Move{{Kind: 5, Team: "x", Player: "p"}}, api.ErrKind},
		{"kind -1", []api.Move{{Kind: -1, Team: "x", Player: "p"}}, api.ErrKind},
		{"team no key", moves("1 add x p", "0 add X p"), api.ErrName},
		{"no team", []api.Move{{Kind: api.MoveAdd, Player: "p"}}, api.ErrName},
		{"team too long", moves("0 add " + long + " p"), api.ErrName},
		{"player no key", moves("1 add x p", "0 add x P"), api.ErrName},
		{"no player", []api.Move{{Kind: api.MoveAdd, Team: "x"}}, api.ErrName},
		{"player too long", moves("0 add x " + long), api.ErrName},
		{"twice", moves("0 add x p", "0 add x p"), api.ErrOrder},
		{"moments fall", moves("1 add x p", "0 drop y q"), api.ErrOrder},
		{"teams fall", moves("1 add y p", "1 drop x q"), api.ErrOrder},
		{"players fall", moves("1 add x q", "1 drop x p"), api.ErrOrder},
		{"kinds fall", moves("1 back x p", "1 stash x p"), api.ErrOrder},
		{"first one first", moves("1 add x p", "0 add x p", "-1 add x p"), api.ErrOrder},
		{"most", manyMoves(api.MaxMoves, api.MoveAdd), api.OK},
		{"too many", manyMoves(api.MaxMoves+1, api.MoveAdd), api.ErrLarge},
		{"too many, and wrong", make([]api.Move, api.MaxMoves+1), api.ErrLarge},
	} {
		equal(t, x.name, CheckMoves(x.l), x.want)
	}
}

// P5.1: Merge.
func TestMerge(t *testing.T) {
	for _, x := range []struct {
		name       string
		a, b, want []api.Move
	}{
		{"nothing", nil, nil, nil},
		{"one list", moves("0 add x p", "1 drop x p"), nil, moves("0 add x p", "1 drop x p")},
		{"another list", nil, moves("0 add x p"), moves("0 add x p")},
		{"the same", moves("0 add x p", "1 drop x p"), moves("0 add x p", "1 drop x p"), moves("0 add x p", "1 drop x p")},
		{"in order", moves("0 add x p", "5 add y q"), moves("0 add x q", "3 drop x p", "5 add x q"), moves("0 add x p", "0 add x q", "3 drop x p", "5 add x q", "5 add y q")},
		{"kinds at a moment", moves("0 add x p", "0 stash x p"), moves("0 drop x p", "0 back x p"), moves("0 add x p", "0 drop x p", "0 stash x p", "0 back x p")},
		{"those that are refused, too", moves("0 add x p"), moves("0 add y p"), moves("0 add x p", "0 add y p")},
	} {
		for _, lists := range [][2][]api.Move{{x.a, x.b}, {x.b, x.a}} {
			l, e := Merge(lists[0], lists[1])
			equal(t, x.name, e, api.OK)
			list(t, x.name, l, x.want)
		}
	}
}

// P5.1: errors of Merge.
func TestMergeErrors(t *testing.T) {
	all := manyMoves(api.MaxMoves+1, api.MoveAdd)
	for _, x := range []struct {
		name string
		a, b []api.Move
		want api.Errno
	}{
		{"first list", moves("1 add x p", "0 add x p"), make([]api.Move, api.MaxMoves+1), api.ErrOrder},
		{"second list", all[1:], moves("-1 add x p"), api.ErrArg},
		{"too many", all[:1], all[1:], api.ErrLarge},
		{"first list too many", all, nil, api.ErrLarge},
		{"just as many as can be", all[:1500], all[1000:2000], api.OK},
		{"the most twice", all[1:], all[1:], api.OK},
	} {
		l, e := Merge(x.a, x.b)
		equal(t, x.name, e, x.want)
		if e != api.OK {
			list(t, x.name, l, nil)
		}
	}
}

// P5.1: lists that are merged in any order are the same, and right.
func TestMergePlainly(t *testing.T) {
	random := rand.New(rand.NewPCG(51, 1))
	for range 200 {
		_, a := anyMoves(random)
		_, b := anyMoves(random)
		var want []api.Move
		for at := range 400 {
			for _, x := range everyMove(api.WeekLong - 100 + at) {
				if slices.Contains(a, x) || slices.Contains(b, x) {
					want = append(want, x)
				}
			}
		}
		one, e := Merge(a, b)
		equal(t, "Merge", e, api.OK)
		list(t, "Merge", one, want)
		other, _ := Merge(b, a)
		list(t, "Merge", other, want)
		equal(t, "CheckMoves", CheckMoves(one), api.OK)
	}
}

// everyMove returns all moves that anyMoves can make at a moment, in order.
func everyMove(at int) []api.Move {
	var l []api.Move
	for _, team := range []string{"x", "y", "z"} {
		for _, player := range []string{"p", "q", "r", "s", "t"} {
			for kind := api.MoveAdd; kind <= api.MoveBack; kind++ {
				l = append(l, api.Move{At: at, Kind: kind, Team: team, Player: player})
			}
		}
	}
	return l
}
