package draft

import (
	"math"
	"math/rand/v2"
	"slices"
	"strings"
	"testing"

	"benchwarmer/api"
)

// kept are the keeps, and given the swaps of most tests: open are 0 b, 2 c, 3 c, 5 a, 6 a, 7 b and 8 c.
func kept() []api.Keep  { return keeps("b p5 1", "b p3 2") }
func given() []api.Swap { return swaps("1 a b") }

// P4.2: CheckPicks.
func TestCheckPicks(t *testing.T) {
	for _, x := range []struct {
		name  string
		picks []string
		want  api.Errno
	}{
		{"none", nil, api.OK},
		{"ordinary", []string{"0 b p9 100", "2 c p1 100 auto", "3 c p2 2000"}, api.OK},
		{"all", []string{"0 b p9 100", "2 c p1 100", "3 c p2 200", "5 a p4 200", "6 a p6 300", "7 b p7 400", "8 c p8 400"}, api.OK},
		{"one more", []string{"0 b p9 100", "2 c p1 100", "3 c p2 200", "5 a p4 200", "6 a p6 300", "7 b p7 400", "8 c p8 400", "9 a p8 -1"}, api.ErrLarge},
		{"one more, first one wrong", []string{"0 b p9 -1", "2 c p1 100", "3 c p2 200", "5 a p4 200", "6 a p6 300", "7 b p7 400", "8 c p8 400", "9 a p8 -1"}, api.ErrLarge},
		{"moment below 0", []string{"1 x x -1"}, api.ErrArg},
		{"not from 0", []string{"2 c p1 100"}, api.ErrOrder},
		{"a kept one", []string{"0 b p9 100", "1 b p5 100"}, api.ErrOrder},
		{"below 0", []string{"-1 b p9 100"}, api.ErrOrder},
		{"one left out", []string{"0 b p9 100", "3 c p1 100"}, api.ErrOrder},
		{"again", []string{"0 b p9 100", "0 b p1 100"}, api.ErrOrder},
		{"order before team", []string{"1 a p9 100"}, api.ErrOrder},
		{"whose turn it was without swaps", []string{"0 a x 100"}, api.ErrConflict},
		{"no team", []string{"0 d p9 100"}, api.ErrConflict},
		{"no player", []string{"0 b p0 100"}, api.ErrNone},
		{"no key", []string{"0 b P9 0"}, api.ErrNone},
		{"kept", []string{"0 b p3 0"}, api.ErrTwice},
		{"picked", []string{"0 b p9 100", "2 c p9 99"}, api.ErrTwice},
		{"before the start", []string{"0 b p9 99"}, api.ErrState},
		{"before the one before", []string{"0 b p9 150", "2 c p1 149"}, api.ErrState},
		{"first one first", []string{"0 b p9 99", "2 c p1 -1"}, api.ErrState},
	} {
		equal(t, x.name, CheckPicks(room(api.TurnSnake), kept(), given(), picks(x.picks...)), x.want)
	}
	for _, x := range []struct {
		at   int
		want api.Errno
	}{{api.End - 1, api.OK}, {api.End, api.ErrArg}, {math.MaxInt, api.ErrArg}, {math.MinInt, api.ErrArg}} {
		equal(t, "At", CheckPicks(room(api.TurnSnake), nil, nil, []api.Pick{{Team: "a", Player: "p1", At: x.at}}), x.want)
	}
	for _, no := range []int{math.MaxInt, math.MinInt} {
		equal(t, "No", CheckPicks(room(api.TurnSnake), nil, nil, []api.Pick{{No: no, Team: "a", Player: "p1", At: 100}}), api.ErrOrder)
	}
	equal(t, "an open one", CheckPicks(room(api.TurnSnake), nil, nil, []api.Pick{{Team: "a", At: 100}}), api.ErrNone)
	equal(t, "Open first", CheckPicks(room(api.TurnSnake), kept(), swaps("1 b a"), make([]api.Pick, 100)), api.ErrConflict)
	equal(t, "all are kept", CheckPicks(api.Room{Teams: []string{"a"}, Rounds: 1, Way: 1, Players: players(2), Clock: 1_000}, keeps("a p1 1"), nil, picks("0 a p2 0")), api.ErrLarge)
}

// P4.2: Next.
func TestNext(t *testing.T) {
	for _, x := range []struct {
		picks []string
		want  api.Pick
		open  bool
	}{
		{nil, api.Pick{No: 0, Team: "b"}, true},
		{[]string{"0 b p9 150"}, api.Pick{No: 2, Team: "c"}, true},
		{[]string{"0 b p9 150", "2 c p1 150", "3 c p2 150"}, api.Pick{No: 5, Team: "a"}, true},
		{[]string{"0 b p9 100", "2 c p1 100", "3 c p2 200", "5 a p4 200", "6 a p6 300", "7 b p7 400", "8 c p8 400"}, api.Pick{}, false},
	} {
		next, open, e := Next(room(api.TurnSnake), kept(), given(), picks(x.picks...))
		equal(t, "Next", e, api.OK)
		equal(t, "Next", open, x.open)
		equal(t, "Next", next, x.want)
	}
}

// P4.2: Due.
func TestDue(t *testing.T) {
	all := picks("0 b p9 100", "2 c p1 100", "3 c p2 200", "5 a p4 200", "6 a p6 300", "7 b p7 400", "8 c p8 400")
	for _, x := range []struct {
		many, start, clock, at int
		due                    bool
	}{
		{0, 100, 1_000, 1_100, true},
		{1, 100, 1_000, 1_100, true},
		{3, 100, 1_500, 1_700, true},
		{6, 100, 1_000, 1_400, true},
		{7, 100, 1_000, 0, false},
		{0, api.End - 1_001, 1_000, api.End - 1, true},
		{0, api.End - 1_000, 1_000, 0, false},
		{0, api.End - 1, api.DayLong, 0, false},
		{0, 0, api.DayLong, api.DayLong, true},
	} {
		r := room(api.TurnSnake)
		r.Start, r.Clock = x.start, x.clock
		at, due, e := Due(r, kept(), given(), all[:x.many])
		equal(t, "Due", e, api.OK)
		equal(t, "Due", due, x.due)
		equal(t, "Due", at, x.at)
	}
	at, due, e := Due(room(api.TurnSnake), nil, nil, []api.Pick{{Team: "a", Player: "p1", At: api.End - 1}})
	equal(t, "behind the last moment", e, api.OK)
	equal(t, "behind the last moment", due, false)
	equal(t, "behind the last moment", at, 0)
}

// P4.2: Left and Teams.
func TestLeftAndTeams(t *testing.T) {
	r := room(api.TurnSnake)
	r.Teams = strings.Fields("b c a")
	// Now the snake is b c a a c b b c a; c has the turn 0 of b.
	for _, x := range []struct {
		picks      []string
		left, want string
	}{
		{nil, "p1 p2 p4 p6 p7 p8 p9", "b p3, c p5, a"},
		{[]string{"0 c p9 150"}, "p1 p2 p4 p6 p7 p8", "b p3, c p9 p5, a"},
		{[]string{"0 c p9 150", "2 a p2 160", "3 a p1 170"}, "p4 p6 p7 p8", "b p3, c p9 p5, a p2 p1"},
		{[]string{"0 c p9 150", "2 a p2 160", "3 a p1 170", "4 c p8 180", "6 b p7 190", "7 c p6 200", "8 a p4 200"}, "", "b p3 p7, c p9 p5 p8 p6, a p2 p1 p4"},
	} {
		k, s, l := keeps("b p3 2", "c p5 1"), swaps("1 b c"), picks(x.picks...)
		left, e := Left(r, k, s, l)
		equal(t, "Left", e, api.OK)
		equal(t, "Left", strings.Join(left, " "), x.left)
		teams, e := Teams(r, k, s, l)
		equal(t, "Teams", e, api.OK)
		equal(t, "Teams", had(teams), x.want)
	}
	r.Players = append(r.Players, "q1", "q2")
	left, _ := Left(r, nil, nil, nil)
	list(t, "all are left", left, r.Players)
}

// P4.2: picks, next ones, those who are left, and teams of any game.
func TestPicksPlainly(t *testing.T) {
	random := rand.New(rand.NewPCG(42, 1))
	for range 500 {
		g := anyGame(random)
		equal(t, g.String(), CheckPicks(g.r, g.k, g.s, g.l), api.OK)
		open := g.open()
		next, is, e := Next(g.r, g.k, g.s, g.l)
		equal(t, g.String(), e, api.OK)
		equal(t, g.String(), is, len(g.l) < len(open))
		if is {
			equal(t, g.String(), next, open[len(g.l)])
		}
		left, e := Left(g.r, g.k, g.s, g.l)
		equal(t, g.String(), e, api.OK)
		list(t, g.String(), left, g.left(g.l))
		all := g.all()
		for _, x := range g.l {
			all[x.No] = x
		}
		teams, e := Teams(g.r, g.k, g.s, g.l)
		equal(t, g.String(), e, api.OK)
		equal(t, g.String(), len(teams), len(g.r.Teams))
		for i, x := range teams {
			var want []string
			for _, pick := range all {
				if pick.Team == x.Team && pick.Player != "" {
					want = append(want, pick.Player)
				}
			}
			equal(t, g.String(), x.Team, g.r.Teams[i])
			list(t, g.String(), x.Players, want)
		}
		if at := slices.IndexFunc(g.l, func(x api.Pick) bool { return x.At > g.r.Start }); at >= 0 {
			g.l[at].At = g.r.Start - 1
			want := api.ErrState
			if g.r.Start == 0 {
				want = api.ErrArg
			}
			equal(t, g.String(), CheckPicks(g.r, g.k, g.s, g.l), want)
		}
	}
}
