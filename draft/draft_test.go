package draft

import (
	"math"
	"math/rand/v2"
	"slices"
	"strings"
	"testing"

	"benchwarmer/api"
)

// P4.1: CheckRoom.
func TestCheckRoom(t *testing.T) {
	for _, x := range []struct {
		name  string
		spoil func(r *api.Room)
		want  api.Errno
	}{
		{"ordinary", func(r *api.Room) {}, api.OK},
		{"most", func(r *api.Room) { *r = wideRoom() }, api.OK},
		{"most rounds", func(r *api.Room) { r.Rounds, r.Players = api.MaxTurns, keys(3*api.MaxTurns) }, api.OK},
		{"one team, one round", func(r *api.Room) { r.Teams, r.Rounds, r.Players = r.Teams[:1], 1, players(1) }, api.OK},
		{"teams in any order", func(r *api.Room) { r.Teams = strings.Fields("c a b") }, api.OK},
		{"least numbers", func(r *api.Room) { r.Clock, r.Start = 1_000, 0 }, api.OK},
		{"greatest numbers", func(r *api.Room) { r.Clock, r.Start = api.DayLong, api.End-1 }, api.OK},
		{"more players", func(r *api.Room) { r.Players = keys(10) }, api.OK},
		{"nothing", func(r *api.Room) { *r = api.Room{} }, api.ErrNone},
		{"no teams", func(r *api.Room) { r.Teams, r.Rounds = nil, 0 }, api.ErrNone},
		{"too many teams", func(r *api.Room) { r.Teams, r.Rounds = keys(api.MaxTeams+1), 0 }, api.ErrLarge},
		{"too many teams, and wrong", func(r *api.Room) { r.Teams = make([]string, api.MaxTeams+1) }, api.ErrLarge},
		{"team no key", func(r *api.Room) { r.Teams[1], r.Rounds = "B", 0 }, api.ErrName},
		{"team too long", func(r *api.Room) { r.Teams[1] = key(0) + "k" }, api.ErrName},
		{"no keys twice", func(r *api.Room) { r.Teams[0], r.Teams[1] = "", "" }, api.ErrName},
		{"team twice", func(r *api.Room) { r.Teams[2], r.Rounds = "a", 0 }, api.ErrTwice},
		{"first team first", func(r *api.Room) { r.Teams = strings.Fields("a a B") }, api.ErrTwice},
		{"no rounds", func(r *api.Room) { r.Rounds, r.Way = 0, 0 }, api.ErrArg},
		{"too many rounds", func(r *api.Room) { r.Rounds = api.MaxTurns + 1 }, api.ErrArg},
		{"least rounds", func(r *api.Room) { r.Rounds = math.MinInt }, api.ErrArg},
		{"greatest rounds", func(r *api.Room) { r.Rounds = math.MaxInt }, api.ErrArg},
		{"way 0", func(r *api.Room) { r.Way, r.Players = 0, keys(api.MaxPlayers+1) }, api.ErrKind},
		{"way 4", func(r *api.Room) { r.Way = 4 }, api.ErrKind},
		{"way -1", func(r *api.Room) { r.Way = -1 }, api.ErrKind},
		{"too many players", func(r *api.Room) { r.Players, r.Clock = keys(api.MaxPlayers+1), 0 }, api.ErrLarge},
		{"too many players, and wrong", func(r *api.Room) { r.Players = make([]string, api.MaxPlayers+1) }, api.ErrLarge},
		{"player no key", func(r *api.Room) { r.Players[1], r.Clock = "A", 0 }, api.ErrName},
		{"player twice", func(r *api.Room) { r.Players[1], r.Clock = "p1", 0 }, api.ErrOrder},
		{"players fall", func(r *api.Room) { r.Players[1], r.Clock = "a", 0 }, api.ErrOrder},
		{"first player first", func(r *api.Room) { r.Players[1], r.Players[2] = "a", "A" }, api.ErrOrder},
		{"players before their number", func(r *api.Room) { r.Players = strings.Fields("b a") }, api.ErrOrder},
		{"clock too short", func(r *api.Room) { r.Clock, r.Players = 999, nil }, api.ErrArg},
		{"clock too long", func(r *api.Room) { r.Clock = api.DayLong + 1 }, api.ErrArg},
		{"clock below 0", func(r *api.Room) { r.Clock = math.MinInt }, api.ErrArg},
		{"start below 0", func(r *api.Room) { r.Start, r.Players = -1, nil }, api.ErrArg},
		{"start at the end", func(r *api.Room) { r.Start = api.End }, api.ErrArg},
		{"too few players", func(r *api.Room) { r.Players = players(8) }, api.ErrFull},
		{"no players", func(r *api.Room) { r.Players = nil }, api.ErrFull},
		{"one round more", func(r *api.Room) { r.Rounds = 4 }, api.ErrFull},
		{"the largest teams and rounds", func(r *api.Room) { *r = wideRoom(); r.Rounds++ }, api.ErrFull},
	} {
		r := room(api.TurnSnake)
		x.spoil(&r)
		equal(t, x.name, CheckRoom(r), x.want)
	}
}

// P4.1: Turns, without swaps.
func TestTurns(t *testing.T) {
	for way, want := range map[int]string{
		api.TurnStraight: "abc abc abc abc abc abc abc abc",
		api.TurnSnake:    "abc cba abc cba abc cba abc cba",
		api.TurnThird:    "abc cba cba abc cba abc cba abc",
	} {
		r := room(way)
		r.Players = keys(24)
		for rounds := 1; rounds <= 8; rounds++ {
			r.Rounds = rounds
			turns, e := Turns(r, nil)
			equal(t, "Turns", e, api.OK)
			equal(t, "Turns", strings.Join(turns, ""), strings.ReplaceAll(want, " ", "")[:3*rounds])
		}
	}
	r := room(api.TurnSnake)
	r.Teams = strings.Fields("b c a")
	turns, _ := Turns(r, nil)
	equal(t, "in the order of teams", strings.Join(turns, ""), "bcaacbbca")
	wide, e := Turns(wideRoom(), nil)
	equal(t, "most", e, api.OK)
	equal(t, "most", len(wide), api.MaxPlayers)
}

// P4.1: Turns, with swaps.
func TestTurnsSwapped(t *testing.T) {
	for _, x := range []struct {
		swaps []string
		want  string
	}{
		{[]string{"2 b a"}, "abccaaabc"},
		{[]string{"1 a c", "1 c a"}, "cbacbaabc"},
		{[]string{"1 a a", "3 c c"}, "abccbaabc"},
		{[]string{"1 a b", "1 b c", "1 c a"}, "bcacbaabc"},
		{[]string{"1 a b", "1 b b", "1 c b", "2 a b", "3 c a"}, "bbbcbbaba"},
	} {
		turns, e := Turns(room(api.TurnSnake), swaps(x.swaps...))
		equal(t, "Turns", e, api.OK)
		equal(t, strings.Join(x.swaps, ", "), strings.Join(turns, ""), x.want)
	}
	turns, e := Turns(room(api.TurnSnake), swaps("2 b d"))
	equal(t, "Turns", e, api.ErrNone)
	list(t, "with an error", turns, nil)
}

// P4.1: CheckSwaps.
func TestCheckSwaps(t *testing.T) {
	for _, x := range []struct {
		name  string
		swaps []string
		want  api.Errno
	}{
		{"none", nil, api.OK},
		{"ordinary", []string{"1 a b", "1 b c", "2 a c", "3 c c"}, api.OK},
		{"round 0", []string{"0 d e"}, api.ErrArg},
		{"round 4", []string{"4 a b"}, api.ErrArg},
		{"round -1", []string{"-1 a b"}, api.ErrArg},
		{"no team of", []string{"1 d b"}, api.ErrNone},
		{"no team", []string{"1 a d"}, api.ErrNone},
		{"no key", []string{"1 a B"}, api.ErrNone},
		{"no team before order", []string{"2 a b", "1 a d"}, api.ErrNone},
		{"rounds fall", []string{"2 a b", "1 b a"}, api.ErrOrder},
		{"teams fall", []string{"2 b a", "2 a b"}, api.ErrOrder},
		{"twice", []string{"2 a b", "2 a c"}, api.ErrOrder},
		{"first one first", []string{"1 d a", "0 a b"}, api.ErrNone},
		{"an earlier one first", []string{"2 a b", "1 a b", "0 a b"}, api.ErrOrder},
	} {
		equal(t, x.name, CheckSwaps(room(api.TurnSnake), swaps(x.swaps...)), x.want)
	}
	r := room(api.TurnSnake)
	equal(t, "least round", CheckSwaps(r, []api.Swap{{Round: math.MinInt, Of: "a", Team: "b"}}), api.ErrArg)
	equal(t, "greatest round", CheckSwaps(r, []api.Swap{{Round: math.MaxInt, Of: "a", Team: "b"}}), api.ErrArg)
	equal(t, "too many", CheckSwaps(r, make([]api.Swap, api.MaxPicks+1)), api.ErrLarge)
	equal(t, "not too many, but wrong", CheckSwaps(r, make([]api.Swap, api.MaxPicks)), api.ErrArg)
	r.Teams = strings.Fields("c b a")
	equal(t, "by the names of teams", CheckSwaps(r, swaps("1 a b", "1 c b")), api.OK)
	equal(t, "not by their order", CheckSwaps(r, swaps("1 c b", "1 a b")), api.ErrOrder)
	r.Rounds = 0
	equal(t, "room first", CheckSwaps(r, make([]api.Swap, api.MaxPicks+1)), api.ErrArg)
	var all []api.Swap
	for round := range wideRoom().Rounds {
		for _, team := range keys(api.MaxTeams) {
			all = append(all, api.Swap{Round: 1 + round, Of: team, Team: key(0)})
		}
	}
	equal(t, "all turns", CheckSwaps(wideRoom(), all), api.OK)
}

// P4.1: CheckKeeps.
func TestCheckKeeps(t *testing.T) {
	for _, x := range []struct {
		name  string
		keeps []string
		want  api.Errno
	}{
		{"none", nil, api.OK},
		{"ordinary", []string{"a p9 1", "a p1 3", "b p5 1", "c p2 2"}, api.OK},
		{"no team", []string{"d p1 0"}, api.ErrNone},
		{"no player", []string{"a p0 0"}, api.ErrNone},
		{"no key", []string{"a P1 0"}, api.ErrNone},
		{"round 0", []string{"a p1 0"}, api.ErrArg},
		{"round 4", []string{"a p1 4"}, api.ErrArg},
		{"round before order", []string{"b p1 1", "a p2 4"}, api.ErrArg},
		{"teams fall", []string{"b p1 1", "a p2 2"}, api.ErrOrder},
		{"rounds fall", []string{"a p1 2", "a p2 1"}, api.ErrOrder},
		{"a round twice", []string{"a p1 2", "a p2 2"}, api.ErrOrder},
		{"a player twice", []string{"a p1 1", "a p1 2"}, api.ErrTwice},
		{"by two teams", []string{"a p1 1", "b p2 1", "c p1 1"}, api.ErrTwice},
		{"twice at last", []string{"a p1 1", "b p1 1", "c p2 4"}, api.ErrArg},
		{"order before twice", []string{"a p1 1", "a p1 1"}, api.ErrOrder},
		{"first one first", []string{"a p1 4", "d p1 1"}, api.ErrArg},
	} {
		equal(t, x.name, CheckKeeps(room(api.TurnSnake), keeps(x.keeps...)), x.want)
	}
	r := room(api.TurnSnake)
	equal(t, "least round", CheckKeeps(r, []api.Keep{{Team: "a", Player: "p1", Round: math.MinInt}}), api.ErrArg)
	equal(t, "greatest round", CheckKeeps(r, []api.Keep{{Team: "a", Player: "p1", Round: math.MaxInt}}), api.ErrArg)
	equal(t, "too many", CheckKeeps(r, make([]api.Keep, api.MaxPicks+1)), api.ErrLarge)
	equal(t, "not too many, but wrong", CheckKeeps(r, make([]api.Keep, api.MaxPicks)), api.ErrNone)
	r.Teams = strings.Fields("c b a")
	equal(t, "by the names of teams", CheckKeeps(r, keeps("a p1 1", "c p2 1")), api.OK)
	r.Way = 0
	equal(t, "room first", CheckKeeps(r, make([]api.Keep, api.MaxPicks+1)), api.ErrKind)
}

// P4.1: a keep needs a turn of its team of which there is no swap.
func TestOpenConflict(t *testing.T) {
	for _, x := range []struct {
		keep, swap string
		want       api.Errno
	}{
		{"b p5 2", "1 b a", api.OK},
		{"b p5 2", "2 a c", api.OK},
		{"b p5 2", "2 a b", api.OK},
		{"b p5 2", "2 b a", api.ErrConflict},
		{"b p5 2", "2 b b", api.ErrConflict},
		{"b p5 3", "3 b c", api.ErrConflict},
	} {
		k, s := keeps(x.keep), swaps(x.swap)
		open, e := Open(room(api.TurnSnake), k, s)
		equal(t, x.keep+" with "+x.swap, e, x.want)
		equal(t, "keeps alone", CheckKeeps(room(api.TurnSnake), k), api.OK)
		equal(t, "swaps alone", CheckSwaps(room(api.TurnSnake), s), api.OK)
		equal(t, "CheckPicks", CheckPicks(room(api.TurnSnake), k, s, nil), x.want)
		if e != api.OK {
			list(t, "with an error", open, nil)
		}
	}
	// The turn that b has of a is none of its own: b keeps p5 for the one that it had before.
	open, _ := Open(room(api.TurnSnake), keeps("b p5 2"), swaps("2 a b"))
	list(t, "two turns", open[4:6], []api.Pick{{No: 4, Team: "b", Player: "p5", At: 100}, {No: 5, Team: "b"}})
	_, e := Open(room(api.TurnSnake), keeps("b p5 2", "b p5 3"), swaps("2 b d"))
	equal(t, "keeps first", e, api.ErrTwice)
	_, e = Open(room(api.TurnSnake), keeps("b p5 2"), swaps("2 b a", "4 b d"))
	equal(t, "swaps before both", e, api.ErrArg)
}

// P4.2: Open.
func TestOpen(t *testing.T) {
	open, e := Open(room(api.TurnSnake), keeps("a p9 1", "b p5 2", "c p1 3"), swaps("1 b c", "2 a b"))
	equal(t, "Open", e, api.OK)
	list(t, "Open", open, []api.Pick{
		{No: 0, Team: "a", Player: "p9", At: 100}, {No: 1, Team: "c"}, {No: 2, Team: "c"},
		{No: 3, Team: "c"}, {No: 4, Team: "b", Player: "p5", At: 100}, {No: 5, Team: "b"},
		{No: 6, Team: "a"}, {No: 7, Team: "b"}, {No: 8, Team: "c", Player: "p1", At: 100},
	})
	wide, e := Open(wideRoom(), nil, nil)
	equal(t, "most", e, api.OK)
	equal(t, "most", len(wide), api.MaxPlayers)
	random := rand.New(rand.NewPCG(41, 1))
	for range 500 {
		g := anyGame(random)
		open, e := Open(g.r, g.k, g.s)
		equal(t, g.String(), e, api.OK)
		list(t, g.String(), open, g.all())
		turns, e := Turns(g.r, g.s)
		equal(t, g.String(), e, api.OK)
		equal(t, g.String(), len(turns), len(open))
		equal(t, g.String(), slices.ContainsFunc(open, func(x api.Pick) bool { return turns[x.No] != x.Team }), false)
	}
}
