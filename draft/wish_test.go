package draft

import (
	"math"
	"math/rand/v2"
	"slices"
	"strings"
	"testing"

	"benchwarmer/api"
)

// P4.3: CheckWishes.
func TestCheckWishes(t *testing.T) {
	for _, x := range []struct {
		name   string
		wishes []string
		want   api.Errno
	}{
		{"none", nil, api.OK},
		{"ordinary", []string{"b p9 p1", "a p1 p2 p9"}, api.OK},
		{"empty ones", []string{"b", "a"}, api.OK},
		{"all", []string{"a p9 p8 p7 p6 p5 p4 p3 p2 p1", "b", "c p1"}, api.OK},
		{"no team", []string{"d p0"}, api.ErrNone},
		{"no key", []string{"A p1"}, api.ErrNone},
		{"twice", []string{"a", "b", "a p0"}, api.ErrTwice},
		{"no player", []string{"a p1 p0"}, api.ErrNone},
		{"a player twice", []string{"a p1 p2 p1"}, api.ErrTwice},
		{"first player first", []string{"a p1 p1 p0"}, api.ErrTwice},
		{"no players twice", []string{"a p0 p0"}, api.ErrNone},
		{"first team first", []string{"a p1 p1", "d"}, api.ErrTwice},
		{"all of the first team first", []string{"a p0", "a"}, api.ErrNone},
	} {
		equal(t, x.name, CheckWishes(room(api.TurnSnake), wishes(x.wishes...)), x.want)
	}
	r := room(api.TurnSnake)
	equal(t, "too many", CheckWishes(r, make([]api.Wishes, api.MaxTeams+1)), api.ErrLarge)
	equal(t, "not too many, but wrong", CheckWishes(r, make([]api.Wishes, api.MaxTeams)), api.ErrNone)
	equal(t, "too many players", CheckWishes(r, []api.Wishes{{Team: "a", Players: make([]string, api.MaxWishes+1)}}), api.ErrLarge)
	equal(t, "not too many players", CheckWishes(r, []api.Wishes{{Team: "a", Players: make([]string, api.MaxWishes)}}), api.ErrNone)
	equal(t, "team before too many players", CheckWishes(r, []api.Wishes{{Team: "d", Players: make([]string, api.MaxWishes+1)}}), api.ErrNone)
	r.Rounds = 0
	equal(t, "room first", CheckWishes(r, make([]api.Wishes, api.MaxTeams+1)), api.ErrArg)
	equal(t, "most", CheckWishes(wideRoom(), wideWishes()), api.OK)
}

// wideWishes are as many wishes as there can be, all of them for the last players first.
func wideWishes() []api.Wishes {
	var w []api.Wishes
	for _, team := range keys(api.MaxTeams) {
		all := keys(api.MaxWishes)
		slices.Reverse(all)
		w = append(w, api.Wishes{Team: team, Players: all})
	}
	return w
}

// P4.3: Auto.
func TestAuto(t *testing.T) {
	w := wishes("b p5 p9 p8", "c p9 p2")
	for _, x := range []struct {
		name  string
		made  []string
		at    int
		added []string
	}{
		{"at first", nil, 0, nil},
		{"just before", nil, 1_099, nil},
		{"just then", nil, 1_100, []string{"0 b p9 1100 auto"}},
		{"long after", nil, 3_099, []string{"0 b p9 1100 auto", "2 c p2 2100 auto"}},
		{"without wishes left", nil, 5_099, []string{"0 b p9 1100 auto", "2 c p2 2100 auto", "3 c p1 3100 auto", "5 a p4 4100 auto"}},
		{"all", nil, api.End - 1, []string{"0 b p9 1100 auto", "2 c p2 2100 auto", "3 c p1 3100 auto", "5 a p4 4100 auto", "6 a p6 5100 auto", "7 b p8 6100 auto", "8 c p7 7100 auto"}},
		{"behind picks", []string{"0 b p2 150", "2 c p1 200"}, 2_200, []string{"3 c p9 1200 auto", "5 a p4 2200 auto"}},
		{"before the last pick", []string{"0 b p2 150", "2 c p1 200"}, 150, nil},
		{"before the start", []string{"0 b p2 150"}, 99, nil},
		{"before time is up", []string{"0 b p2 150", "2 c p1 200"}, 1_199, nil},
		{"nothing is open", []string{"0 b p9 100", "2 c p1 100", "3 c p2 200", "5 a p4 200", "6 a p6 300", "7 b p7 400", "8 c p8 400"}, api.End - 1, nil},
	} {
		auto, e := Auto(room(api.TurnSnake), kept(), given(), picks(x.made...), w, x.at)
		equal(t, x.name, e, api.OK)
		list(t, x.name, auto, picks(append(x.made, x.added...)...))
	}
	for _, at := range []int{-1, api.End, math.MinInt, math.MaxInt} {
		auto, e := Auto(room(api.TurnSnake), kept(), given(), picks("0 b p2 150"), w, at)
		equal(t, "no moment", e, api.ErrArg)
		list(t, "no moment", auto, nil)
	}
	r := room(api.TurnSnake)
	r.Start = api.End - 2_500
	auto, e := Auto(r, nil, nil, nil, nil, api.End-1)
	equal(t, "the end of all moments", e, api.OK)
	list(t, "the end of all moments", auto, []api.Pick{{Team: "a", Player: "p1", At: api.End - 1_500, Auto: true}, {No: 1, Team: "b", Player: "p2", At: api.End - 500, Auto: true}})
}

// P4.3: Finish.
func TestFinish(t *testing.T) {
	w := wishes("b p5 p9 p8", "c p9 p2")
	for _, x := range []struct{ made, added []string }{
		{nil, []string{"0 b p9 100 auto", "2 c p2 100 auto", "3 c p1 100 auto", "5 a p4 100 auto", "6 a p6 100 auto", "7 b p8 100 auto", "8 c p7 100 auto"}},
		{[]string{"0 b p2 150", "2 c p1 200"}, []string{"3 c p9 200 auto", "5 a p4 200 auto", "6 a p6 200 auto", "7 b p8 200 auto", "8 c p7 200 auto"}},
		{[]string{"0 b p9 100", "2 c p1 100", "3 c p2 200", "5 a p4 200", "6 a p6 300", "7 b p7 400", "8 c p8 400"}, nil},
	} {
		all, e := Finish(room(api.TurnSnake), kept(), given(), picks(x.made...), w)
		equal(t, "Finish", e, api.OK)
		list(t, "Finish", all, picks(append(x.made, x.added...)...))
	}
	r := room(api.TurnStraight)
	r.Start = api.End - 1
	all, e := Finish(r, nil, nil, nil, nil)
	equal(t, "at the last moment", e, api.OK)
	equal(t, "at the last moment", len(all), 9)
	equal(t, "at the last moment", all[8], api.Pick{No: 8, Team: "c", Player: "p9", At: api.End - 1, Auto: true})
	wide, e := Finish(wideRoom(), nil, nil, nil, wideWishes())
	equal(t, "most", e, api.OK)
	equal(t, "most", len(wide), api.MaxPlayers)
	equal(t, "most", wide[0].Player, key(api.MaxPlayers-1))
	equal(t, "most", CheckPicks(wideRoom(), nil, nil, wide), api.OK)
}

// P4.3: Regret.
func TestRegret(t *testing.T) {
	w := wishes("b p5 p9 p8", "c p9 p2")
	for _, x := range []struct {
		made []string
		want string
	}{
		{nil, "0 0 0"},
		{[]string{"0 b p9 150"}, "0 0 0"},
		{[]string{"0 b p8 150"}, "0 1 0"},
		{[]string{"0 b p8 150 auto", "2 c p9 200", "3 c p1 300"}, "0 1 1"},
		{[]string{"0 b p8 150", "2 c p2 200", "3 c p1 300", "5 a p4 300", "6 a p7 300", "7 b p9 300"}, "1 1 2"},
		{[]string{"0 b p9 150", "2 c p2 200", "3 c p1 300", "5 a p4 300", "6 a p6 300", "7 b p8 300", "8 c p7 400"}, "0 0 0"},
	} {
		regrets, e := Regret(room(api.TurnSnake), kept(), given(), picks(x.made...), w)
		equal(t, "Regret", e, api.OK)
		many := strings.Fields(x.want)
		list(t, "Regret", regrets, pairs("a "+many[0], "b "+many[1], "c "+many[2]))
	}
	r := room(api.TurnSnake)
	r.Teams = strings.Fields("c a b")
	regrets, e := Regret(r, nil, nil, picks("0 c p9 150"), nil)
	equal(t, "in the order of the room", e, api.OK)
	list(t, "in the order of the room", regrets, pairs("c 1", "a 0", "b 0"))
}

// P4.3: what follows, and Auto, Finish and Regret of any game.
func TestWishesPlainly(t *testing.T) {
	random := rand.New(rand.NewPCG(43, 1))
	for range 500 {
		g := anyGame(random)
		open := g.open()
		at := g.r.Start + random.IntN(20_000)
		var last int
		made := slices.Clone(g.l)
		grow := func(when int) {
			x := open[len(made)]
			x.Player, x.At, x.Auto = g.wish(made, x.Team), when, true
			made = append(made, x)
		}
		for len(made) < len(open) {
			last = g.r.Start
			if len(made) > 0 {
				last = made[len(made)-1].At
			}
			if last+g.r.Clock > at {
				break
			}
			grow(last + g.r.Clock)
		}
		auto, e := Auto(g.r, g.k, g.s, g.l, g.w, at)
		equal(t, g.String(), e, api.OK)
		list(t, g.String(), auto, made)
		equal(t, g.String(), CheckPicks(g.r, g.k, g.s, auto), api.OK)
		for len(made) < len(open) {
			grow(last)
		}
		all, e := Finish(g.r, g.k, g.s, auto, g.w)
		equal(t, g.String(), e, api.OK)
		list(t, g.String(), all, made)
		equal(t, g.String(), CheckPicks(g.r, g.k, g.s, all), api.OK)
		served(t, g, all)
		regretted(t, g, all)
	}
}

// served tests that each team has as many players as turns, and that nobody is picked twice.
func served(t *testing.T, g game, all []api.Pick) {
	t.Helper()
	turns, _ := Turns(g.r, g.s)
	teams, e := Teams(g.r, g.k, g.s, all)
	equal(t, g.String(), e, api.OK)
	seen := map[string]bool{}
	for _, x := range teams {
		many := 0
		for _, team := range turns {
			if team == x.Team {
				many++
			}
		}
		equal(t, g.String()+": players of "+x.Team, len(x.Players), many)
		for _, player := range x.Players {
			equal(t, g.String()+": "+player+" was there before", seen[player], false)
			seen[player] = true
		}
	}
}

// regretted tests Regret of all picks: none of those behind the game's own ones can be another one than the wish.
func regretted(t *testing.T, g game, all []api.Pick) {
	t.Helper()
	many := map[string]int{}
	for i, x := range g.l {
		if x.Player != g.wish(g.l[:i], x.Team) {
			many[x.Team]++
		}
	}
	for _, l := range [][]api.Pick{g.l, all} {
		regrets, e := Regret(g.r, g.k, g.s, l, g.w)
		equal(t, g.String(), e, api.OK)
		equal(t, g.String(), len(regrets), len(g.r.Teams))
		for i, x := range regrets {
			equal(t, g.String(), x.Name, g.r.Teams[i])
			equal(t, g.String(), atoi(x.Value), many[x.Name])
		}
	}
}
