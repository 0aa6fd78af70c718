package match

import (
	"math"
	"math/rand/v2"
	"slices"
	"strings"
	"testing"

	"benchwarmer/api"
)

// P7.1: CheckTeams.
func TestCheckTeams(t *testing.T) {
	for _, x := range []struct {
		name  string
		teams []string
		want  api.Errno
	}{
		{"none", nil, api.ErrNone},
		{"one", []string{"a"}, api.ErrNone},
		{"one that is no key", []string{"A"}, api.ErrNone},
		{"two", []string{"a", "b"}, api.OK},
		{"as many as there can be", keys(api.MaxTeams), api.OK},
		{"too many", keys(api.MaxTeams + 1), api.ErrLarge},
		{"too many that are no keys", make([]string, api.MaxTeams+1), api.ErrLarge},
		{"no key", []string{"a", "B"}, api.ErrName},
		{"no key first", []string{"A", "b"}, api.ErrName},
		{"an empty one", []string{"", "a"}, api.ErrName},
		{"a long one", []string{"a", strings.Repeat("b", api.MaxName+1)}, api.ErrName},
		{"twice", []string{"a", "a"}, api.ErrOrder},
		{"not rising", []string{"b", "a"}, api.ErrOrder},
		{"no key, and less", []string{"b", "A"}, api.ErrName},
		{"one after the other", []string{"b", "a", "C"}, api.ErrOrder},
		{"the second one", []string{"a", "B", "a"}, api.ErrName},
	} {
		equal(t, x.name, CheckTeams(x.teams), x.want)
	}
}

// P7.2: CheckGames.
func TestCheckGames(t *testing.T) {
	for _, x := range []struct {
		games string
		want  api.Errno
	}{
		{"", api.OK},
		{"1 a b", api.OK},
		{"60 d a", api.OK},
		{"1 a b 0 0", api.OK},
		{"1 a b 1/2 -7/100", api.OK},
		{"1 a b 1000000 -1000000", api.OK},
		{"1 a b 99999999/100 -99999999/100", api.OK},
		{"1 a b,1 c d 1 2,2 a b 3 4,2 c d", api.OK},
		{"1 a b,2 b a,3 a b,4 a b", api.OK},
		{"1 d a,1 c b", api.ErrOrder},
		{"1 b a,1 c d", api.OK},
		{"0 a b", api.ErrArg},
		{"-1 a b", api.ErrArg},
		{"61 a b", api.ErrArg},
		{"0 e e", api.ErrArg},
		{"1 e b", api.ErrNone},
		{"1 a e", api.ErrNone},
		{"1 A b", api.ErrNone},
		{"1 e e", api.ErrNone},
		{"1 a a", api.ErrTwice},
		{"1 a a 2/4 1", api.ErrTwice},
		{"1 a b 2/4 1", api.ErrForm},
		{"1 a b 1 2/4", api.ErrForm},
		{"1 a b 0/0 1", api.ErrForm},
		{"1 a b 1 0/0", api.ErrForm},
		{"1 a b 0/0 0/0", api.ErrForm},
		{"1 a b 1/-1 1", api.ErrForm},
		{"1 a b 1 -1/-1", api.ErrForm},
		{"1 a b 0/2 1", api.ErrForm},
		{"1 a b 2000000/2 1", api.ErrForm},
		{"1 a b 1000001 1", api.ErrArg},
		{"1 a b 1 -1000001", api.ErrArg},
		{"1 a b 100000001/100 1", api.ErrArg},
		{"1 a b 1 -100000001/100", api.ErrArg},
		{"1 a b 1/3 1", api.ErrArg},
		{"1 a b 1 1/8", api.ErrArg},
		{"1 a b 1 1/200", api.ErrArg},
		{"1 a b 1/3 2/4", api.ErrForm},
		{"1 a b 2/4 1/3", api.ErrForm},
		{"2 a b,1 a b 1/3 1", api.ErrArg},
		{"2 a b,1 a b", api.ErrOrder},
		{"1 a b,1 a b", api.ErrOrder},
		{"1 b a,1 a b", api.ErrOrder},
		{"1 a c,1 a b", api.ErrOrder},
		{"1 a b,1 c d,1 b c", api.ErrOrder},
		{"2 c d,2 a b,3 e f", api.ErrOrder},
		{"1 a b,1 a c", api.ErrConflict},
		{"1 a b,1 b c", api.ErrConflict},
		{"1 a b,1 c a", api.ErrConflict},
		{"1 a b,1 c b", api.ErrConflict},
		{"1 a b,1 b a", api.ErrConflict},
		{"1 a b,2 a b,2 c b", api.ErrConflict},
		{"1 a b,1 b c,1 c e", api.ErrNone},
		{"1 a b,1 b c,2 c d,2 a b", api.ErrOrder},
	} {
		equal(t, x.games, CheckGames(four(), games(x.games)), x.want)
	}
	equal(t, "teams first", CheckGames([]string{"b", "a"}, games("0 a b")), api.ErrOrder)
	equal(t, "teams first, without games", CheckGames(nil, nil), api.ErrNone)
}

// P7.2: a game that is not played has no points, not even 0 over 1.
func TestCheckGamesNotPlayed(t *testing.T) {
	for _, points := range []api.Fraction{{Den: 1}, {Num: 1}, {Num: 1, Den: 1}, {Num: -1, Den: 2}, {Num: 2, Den: 4}, {Num: 1, Den: 3}, {Den: -1}} {
		for _, x := range []api.Game{
			{Week: 1, Home: "a", Away: "b", For: points},
			{Week: 1, Home: "a", Away: "b", Other: points},
			{Week: 1, Home: "a", Away: "b", For: points, Other: points},
		} {
			equal(t, "not played", CheckGames(four(), []api.Game{x}), api.ErrForm)
		}
	}
	for _, n := range []int{math.MinInt, math.MaxInt} {
		x := gameOf("1 a b 1 1")
		x.For.Num = n
		equal(t, "a great number", CheckGames(four(), []api.Game{x}), api.ErrArg)
		x = gameOf("1 a b 1 1")
		x.Week = n
		equal(t, "a great week", CheckGames(four(), []api.Game{x}), api.ErrArg)
	}
	x := gameOf("1 a b 1 1")
	x.Other.Den = math.MaxInt
	equal(t, "a great Den", CheckGames(four(), []api.Game{x}), api.ErrArg)
	x.Other.Den = math.MinInt
	equal(t, "the least Den", CheckGames(four(), []api.Game{x}), api.ErrForm)
}

// P7.2: as many games as there can be.
func TestCheckGamesMost(t *testing.T) {
	long := make([]api.Game, 0, api.MaxGames+1)
	for week := 1; len(long) <= api.MaxGames; week++ {
		for i := 0; i < api.MaxTeams; i++ {
			long = append(long, api.Game{Week: week, Home: key(i), Away: key((i + 1) % api.MaxTeams)})
		}
	}
	equal(t, "each team twice", CheckGames(keys(api.MaxTeams), long[:api.MaxGames]), api.ErrConflict)
	equal(t, "too many", CheckGames(keys(api.MaxTeams), long[:api.MaxGames+1]), api.ErrLarge)
	equal(t, "too many of nothing", CheckGames(four(), make([]api.Game, api.MaxGames+1)), api.ErrLarge)
	equal(t, "many of nothing", CheckGames(four(), make([]api.Game, api.MaxGames)), api.ErrArg)
	for many, played := range map[int]int{600: 60, 599: 0, 1: 1} {
		equal(t, "a season", CheckGames(keys(api.MaxTeams), fullSeason(many, played)), api.OK)
	}
	// As each team has one game a week, more than 600 games can never be right.
	season := fullSeason(600, 0)
	season[599].Away = season[590].Home
	equal(t, "in the last week", CheckGames(keys(api.MaxTeams), season), api.ErrConflict)
}

// P7.2: what Set makes.
func TestSet(t *testing.T) {
	before := games("1 a d,1 b c,2 b d,2 c a,4 a b 7 8")
	for _, x := range []struct {
		name, points string
		week         int
		want         string
	}{
		{"the first week", "a:5/1 b:1/2 c:1/2 d:4/1", 1, "1 a d 5 4,1 b c 1/2 1/2,2 b d,2 c a,4 a b 7 8"},
		{"in another order", "d:-4/1 c:-1/100 b:0/1 a:1000000/1", 2, "1 a d,1 b c,2 b d 0 -4,2 c a -1/100 1000000,4 a b 7 8"},
		{"a week without games", "a:5/1", 3, "1 a d,1 b c,2 b d,2 c a,4 a b 7 8"},
		{"a week without games, and no points", "", 60, "1 a d,1 b c,2 b d,2 c a,4 a b 7 8"},
	} {
		g, e := Set(four(), before, x.week, pairs(x.points))
		equal(t, x.name, e, api.OK)
		list(t, x.name, g, games(x.want))
		equal(t, x.name, CheckGames(four(), g), api.OK)
	}
	g, e := Set(four(), games("3 a b,4 a b"), 3, pairs("d:9/1 b:2/1 a:1/1"))
	equal(t, "points of who has no game", e, api.OK)
	list(t, "points of who has no game", g, games("3 a b 1 2,4 a b"))
	g, e = Set(four(), nil, 1, nil)
	equal(t, "no games", e, api.OK)
	list(t, "no games", g, nil)
}

// P7.2: errors of Set.
func TestSetErrors(t *testing.T) {
	const all = "a:5/1 b:1/2 c:1/2 d:4/1"
	long := strings.Repeat("1", 200_000)
	for _, x := range []struct {
		name, games, points string
		week                int
		want                api.Errno
	}{
		{"games", "1 a a", all, 0, api.ErrTwice},
		{"week 0", "1 a b", "e:1", 0, api.ErrArg},
		{"week 61", "1 a b", "e:1", 61, api.ErrArg},
		{"too many points", "1 a b", strings.Repeat("a:1/1 ", api.MaxTeams+1), 1, api.ErrLarge},
		{"no such team", "1 a b", "a:1/1 e:x", 1, api.ErrNone},
		{"no team", "1 a b", ":1/1", 1, api.ErrNone},
		{"no such team twice", "1 a b", "e:x e:x", 1, api.ErrNone},
		{"twice", "1 a b", "a:1/1 b:1/1 a:x", 1, api.ErrTwice},
		{"one after the other", "1 a b", "a:x a:1/1", 1, api.ErrSyntax},
		{"one after the other", "1 a b", "a:1/1 a:1/1 e:x", 1, api.ErrTwice},
		{"no value", "1 a b", "a:", 1, api.ErrSyntax},
		{"a whole number", "1 a b", "a:1 b:1", 1, api.ErrSyntax},
		{"three numbers", "1 a b", "a:1/1/1", 1, api.ErrSyntax},
		{"leading 0", "1 a b", "a:01/1", 1, api.ErrSyntax},
		{"leading 0 of Den", "1 a b", "a:1/01", 1, api.ErrSyntax},
		{"-0", "1 a b", "a:-0/1", 1, api.ErrSyntax},
		{"a sign", "1 a b", "a:+1/1", 1, api.ErrSyntax},
		{"16 digits", "1 a b", "a:1000000000000000/1", 1, api.ErrSyntax},
		{"16 digits of Den", "1 a b", "a:1/1000000000000000", 1, api.ErrSyntax},
		{"many digits", "1 a b", "a:" + long, 1, api.ErrSyntax},
		{"15 digits", "1 a b", "a:-999999999999999/1", 1, api.ErrArg},
		{"15 digits of Den", "1 a b", "a:1/999999999999999", 1, api.ErrArg},
		{"not in lowest terms", "1 a b", "a:2/4", 1, api.ErrForm},
		{"Den 0", "1 a b", "a:1/0", 1, api.ErrForm},
		{"Den below 0", "1 a b", "a:1/-1", 1, api.ErrForm},
		{"0 over 0", "1 a b", "a:0/0", 1, api.ErrForm},
		{"too many points", "1 a b", "a:1000001/1", 1, api.ErrArg},
		{"too few points", "1 a b", "a:-100000001/100", 1, api.ErrArg},
		{"a Den that does not divide 100", "1 a b", "a:1/3 b:2/4", 1, api.ErrArg},
		{"wrong points of who has no game", "1 a b", "a:1/1 b:1/1 c:2/4", 1, api.ErrForm},
		{"home has no points", "1 a b,1 c d", "b:1/1 c:1/1 d:1/1", 1, api.ErrNone},
		{"away has no points", "1 a b,1 c d", "a:1/1 b:1/1 c:1/1", 1, api.ErrNone},
		{"nobody has", "1 a b", "", 1, api.ErrNone},
		{"another week has", "1 a b,2 c d", "c:1/1 d:1/1", 1, api.ErrNone},
		{"played", "1 a b 1 2", "a:1/1 b:2/1", 1, api.ErrState},
		{"one is played", "1 a b,1 c d 1 2", all, 1, api.ErrState},
		{"the first one is played", "1 a b 1 2,1 c d", all, 1, api.ErrState},
		{"played, and no points", "1 a b 1 2", "a:1/1", 1, api.ErrNone},
		{"one is played, the other has no points", "1 a b 1 2,1 c d", "a:1/1 b:1/1", 1, api.ErrNone},
		{"played in other weeks", "1 a b 1 2,2 a b,3 a b 1 2", "a:1/1 b:2/1", 2, api.OK},
	} {
		g, e := Set(four(), games(x.games), x.week, pairs(x.points))
		equal(t, x.name, e, x.want)
		if e != api.OK {
			list(t, x.name, g, nil)
		}
	}
	g, e := Set([]string{"b", "a"}, nil, 0, nil)
	equal(t, "teams", e, api.ErrOrder)
	list(t, "teams", g, nil)
	g, e = Set(four(), games("1 a b"), 1, make([]api.Pair, api.MaxTeams+1))
	equal(t, "too many points of nobody", e, api.ErrLarge)
	list(t, "too many points of nobody", g, nil)
}

// P7.2: Set of all weeks in any order, with as many points as there can be.
func TestSetMost(t *testing.T) {
	random := rand.New(rand.NewPCG(72, 1))
	g := fullSeason(600, 0)
	var points []api.Pair
	for i := range api.MaxTeams {
		value := "1000000/1"
		if i%2 == 0 {
			value = "-99999999/100"
		}
		points = append(points, api.Pair{Name: key(i), Value: value})
	}
	for _, i := range random.Perm(api.MaxWeeks) {
		random.Shuffle(len(points), func(i, j int) { points[i], points[j] = points[j], points[i] })
		was := slices.Clone(g)
		next, e := Set(keys(api.MaxTeams), g, 1+i, points)
		equal(t, "Set", e, api.OK)
		list(t, "the games before", g, was)
		g = next
	}
	list(t, "all are played", g, fullSeason(600, api.MaxWeeks))
}
