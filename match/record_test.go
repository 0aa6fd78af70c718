package match

import (
	"fmt"
	"math"
	"math/big"
	"math/rand/v2"
	"slices"
	"strings"
	"testing"

	"benchwarmer/api"
)

// rowOf makes games of the team a by its ends, W, D or L, one a week; - is one that is not played. It is in turn at home and away.
func rowOf(ends string) []api.Game {
	var g []api.Game
	for i, end := range ends {
		x := api.Game{Week: 1 + i, Home: "a", Away: "b"}
		own, other := map[rune]string{'W': "1", 'D': "-1/2", 'L': "-1"}[end], "-1/2"
		if i%2 == 1 {
			x.Home, x.Away = "b", "a"
			own, other = other, own
		}
		if end != '-' {
			x.Played, x.For, x.Other = true, frac(own), frac(other)
		}
		g = append(g, x)
	}
	return g
}

// P7.3: Streak.
func TestStreak(t *testing.T) {
	for _, x := range []struct {
		ends         string
		row, longest int
	}{
		{"", 0, 0},
		{"-", 0, 0},
		{"W", 1, 1},
		{"D", 0, 0},
		{"L", -1, 0},
		{"WWW", 3, 3},
		{"LLL", -3, 0},
		{"DDD", 0, 0},
		{"WWL", -1, 2},
		{"WWLL", -2, 2},
		{"LLW", 1, 1},
		{"LLWW", 2, 2},
		{"WWD", 0, 2},
		{"WDW", 1, 1},
		{"LDL", -1, 0},
		{"WWWLWW", 2, 3},
		{"WWLWWWL", -1, 3},
		{"W-W", 2, 2},
		{"WW--", 2, 2},
		{"--LL-", -2, 0},
		{"W-L-W", 1, 1},
		{"WWWWWDLLLL", -4, 5},
		{strings.Repeat("W", api.MaxWeeks), api.MaxWeeks, api.MaxWeeks},
		{strings.Repeat("L", api.MaxWeeks), -api.MaxWeeks, 0},
	} {
		row, longest, e := Streak(four(), rowOf(x.ends), "a")
		equal(t, x.ends, e, api.OK)
		equal(t, x.ends, row, x.row)
		equal(t, x.ends, longest, x.longest)
		row, longest, e = Streak(four(), rowOf(x.ends), "c")
		equal(t, "who has no game", e, api.OK)
		equal(t, "who has no game", row, 0)
		equal(t, "who has no game", longest, 0)
	}
	row, longest, e := Streak(four(), games("1 a b 1 0,1 c d 9 0,2 a c 3 4,2 b d 1 0,3 a d 1 0"), "a")
	equal(t, "against others", e, api.OK)
	equal(t, "against others", row, 1)
	equal(t, "against others", longest, 1)
}

// P7.3: Faced.
func TestFaced(t *testing.T) {
	g := games("1 a b 1 0,2 b a 1 0,3 a b 0 0,3 c d 0 1,4 a b,5 b a 0 7,6 a c 0 1/4,7 c b 1/2 1/2,8 d a")
	for team, want := range map[string]string{
		"a": "b:2-1-1 c:0-0-1 d:0-0-0",
		"b": "a:1-1-2 c:0-1-0 d:0-0-0",
		"c": "a:1-0-0 b:0-1-0 d:0-0-1",
		"d": "a:0-0-0 b:0-0-0 c:1-0-0",
	} {
		l, e := Faced(four(), g, team)
		equal(t, team, e, api.OK)
		list(t, team, l, pairs(want))
	}
	l, e := Faced(keys(api.MaxTeams), fullSeason(600, api.MaxWeeks), key(0))
	equal(t, "many", e, api.OK)
	equal(t, "many", len(l), api.MaxTeams-1)
	equal(t, "many", l[0], api.Pair{Name: key(1), Value: "0-0-60"})
	equal(t, "many", l[18], api.Pair{Name: key(19), Value: "0-0-0"})
}

// P7.3: errors of Streak and Faced.
func TestTeamErrors(t *testing.T) {
	for _, x := range []struct {
		games, team string
		want        api.Errno
	}{
		{"", "d", api.OK},
		{"1 a a", "e", api.ErrTwice},
		{"1 a b", "e", api.ErrNone},
		{"1 a b", "", api.ErrNone},
		{"1 a b", "A", api.ErrNone},
		{"1 a b", strings.Repeat("a", 200_000), api.ErrNone},
	} {
		row, longest, e := Streak(four(), games(x.games), x.team)
		equal(t, "Streak", e, x.want)
		equal(t, "Streak", row, 0)
		equal(t, "Streak", longest, 0)
		l, e := Faced(four(), games(x.games), x.team)
		equal(t, "Faced", e, x.want)
		equal(t, "Faced", len(l) > 0, e == api.OK)
	}
	_, _, e := Streak(nil, nil, "a")
	equal(t, "teams", e, api.ErrNone)
	_, e = Faced([]string{"b", "a"}, nil, "a")
	equal(t, "teams", e, api.ErrOrder)
}

// P7.3: Median.
func TestMedian(t *testing.T) {
	for _, x := range []struct {
		name, games string
		week        int
		want        string
	}{
		{"no games", "", 1, ""},
		{"no games in this week", "1 a b 1 0,3 a b 1 0", 2, ""},
		{"two", "1 a b 1 0", 1, "a"},
		{"two away", "1 b a 0 1", 1, "a"},
		{"two that are equal", "1 a b 1 1", 1, ""},
		{"the document's", "1 a d 5 4,1 b c 1/2 1/2", 1, "a d"},
		{"more than the mean of all", "1 a b 100 0,1 c d 1 2", 1, "a d"},
		{"less than the mean of all", "1 a b -100 0,1 c d 1 2", 1, "c d"},
		{"just the mean of both in the middle", "1 a b 9 3,1 c d 3 0", 1, "a"},
		{"all equal", "1 a b 3 3,1 c d 3 3", 1, ""},
		{"one less", "1 a b 3 3,1 c d 3 2", 1, ""},
		{"one more", "1 a b 4 3,1 c d 3 3", 1, "a"},
		{"hundredths", "1 a b 1/100 0,1 c d 1/50 -1/100", 1, "a c"},
		{"below 0", "1 a b -1 -2,1 c d -3 -4", 1, "a b"},
		{"rising", "1 c a 2 9,1 d b 8 1", 1, "a d"},
		{"other weeks are nothing", "1 a b,2 a b 1 0,2 c d 2 3,3 a b", 2, "c d"},
		{"six of seven", "7 a b 1 2,7 c f 3 4,7 d e 5 6", 7, "d e f"},
	} {
		l, e := Median(strings.Fields("a b c d e f g"), games(x.games), x.week)
		equal(t, x.name, e, api.OK)
		list(t, x.name, l, strings.Fields(x.want))
	}
}

// P7.3: errors of Median.
func TestMedianErrors(t *testing.T) {
	for _, x := range []struct {
		games string
		week  int
		want  api.Errno
	}{
		{"1 a a", 0, api.ErrTwice},
		{"1 a b", 0, api.ErrArg},
		{"1 a b", -1, api.ErrArg},
		{"1 a b", api.MaxWeeks + 1, api.ErrArg},
		{"1 a b", math.MinInt, api.ErrArg},
		{"1 a b", math.MaxInt, api.ErrArg},
		{"1 a b", 1, api.ErrState},
		{"1 a b,1 c d 1 2", 1, api.ErrState},
		{"1 a b 1 2,1 c d", 1, api.ErrState},
		{"60 a b", 60, api.ErrState},
		{"1 a b", 60, api.OK},
	} {
		l, e := Median(four(), games(x.games), x.week)
		equal(t, x.games, e, x.want)
		list(t, x.games, l, nil)
	}
	_, e := Median([]string{"a"}, nil, 0)
	equal(t, "teams", e, api.ErrNone)
}

// P7.3: Alike.
func TestAlike(t *testing.T) {
	for _, x := range []struct {
		name, games string
		want        int
	}{
		{"no games", "", 0},
		{"the tests'", "1 a d,1 b c,2 b d,2 c a", 4},
		{"one", "1 a b", 1},
		{"two of one pair", "1 a b,2 a b", 1},
		{"at home and away", "1 a b,2 b a", 1},
		{"two pairs", "1 a b,1 c d", 2},
		{"played and not", "1 a b 1 2,2 b c", 2},
		{"each one once", "1 a b,1 c d,2 a c,2 b d,3 a d,3 b c", 0},
		{"each one once, and one twice", "1 a b,1 c d,2 a c,2 b d,3 a d,3 b c,4 d c", 1},
		{"each one once, two more often", "1 a b,1 c d,2 a c,2 b d,3 a d,3 b c,4 d c,5 d c,6 d a", 2},
		{"all but one", "1 a b,1 c d,2 a c,2 b d,3 a d,4 a d", 5},
	} {
		n, e := Alike(four(), games(x.games))
		equal(t, x.name, e, api.OK)
		equal(t, x.name, n, x.want)
	}
	for all, want := range map[string]int{"": 0, "1 a b": 0, "1 a b,2 b a 1 2": 0} {
		n, e := Alike(four()[:2], games(all))
		equal(t, "two teams", e, api.OK)
		equal(t, "two teams", n, want)
	}
	for all, want := range map[string]api.Errno{"1 a a": api.ErrTwice, "2 a b,1 a b": api.ErrOrder, "1 a b,1 a c": api.ErrConflict} {
		n, e := Alike(four(), games(all))
		equal(t, all, e, want)
		equal(t, all, n, 0)
	}
	_, e := Alike(nil, nil)
	equal(t, "teams", e, api.ErrNone)
}

// ends returns the ends of a team as letters.
func ends(g []api.Game, team string) string {
	all := ""
	for _, x := range g {
		if x.Played && (x.Home == team || x.Away == team) {
			all += "LDW"[matchPoints(x, team) : matchPoints(x, team)+1]
		}
	}
	return all
}

// rowAtEnd returns how many letters like this one are at the end.
func rowAtEnd(all, letter string) int {
	return len(all) - len(strings.TrimRight(all, letter))
}

// P7.3: Streak and Faced as they are told.
func TestTeamPlainly(t *testing.T) {
	random := rand.New(rand.NewPCG(73, 2))
	for range 1_000 {
		teams := anyTeams(random)
		g := anyGames(random, teams, random.IntN(5))
		for _, team := range teams {
			row, longest, e := Streak(teams, g, team)
			all := ends(g, team)
			equal(t, "Streak", e, api.OK)
			equal(t, all, row, rowAtEnd(all, "W")-rowAtEnd(all, "L"))
			most := 0
			for strings.Contains(all, strings.Repeat("W", most+1)) {
				most++
			}
			equal(t, all, longest, most)
			var want []api.Pair
			for _, other := range teams {
				against := slices.DeleteFunc(slices.Clone(g), func(x api.Game) bool { return x.Home != other && x.Away != other })
				all := ends(against, team)
				if other != team {
					want = append(want, api.Pair{Name: other, Value: fmt.Sprintf("%d-%d-%d", strings.Count(all, "W"), strings.Count(all, "D"), strings.Count(all, "L"))})
				}
			}
			l, e := Faced(teams, g, team)
			equal(t, "Faced", e, api.OK)
			list(t, fmt.Sprint(g, team), l, want)
		}
	}
}

// P7.3: Median and Alike as they are told.
func TestWeekPlainly(t *testing.T) {
	random := rand.New(rand.NewPCG(73, 3))
	for range 1_000 {
		teams := anyTeams(random)
		g := anyGames(random, teams, 0)
		for week := 1; week <= 6; week++ {
			points := map[string]*big.Rat{}
			var all []*big.Rat
			for _, x := range g {
				if x.Week == week {
					points[x.Home], points[x.Away] = big.NewRat(int64(x.For.Num), int64(x.For.Den)), big.NewRat(int64(x.Other.Num), int64(x.Other.Den))
					all = append(all, points[x.Home], points[x.Away])
				}
			}
			slices.SortFunc(all, (*big.Rat).Cmp)
			var want []string
			for _, team := range teams {
				if points[team] != nil {
					mean := new(big.Rat).Add(all[len(all)/2], all[(len(all)-1)/2])
					mean.Quo(mean, big.NewRat(2, 1))
					if points[team].Cmp(mean) > 0 {
						want = append(want, team)
					}
				}
			}
			l, e := Median(teams, g, week)
			equal(t, "Median", e, api.OK)
			list(t, fmt.Sprint(g, week), l, want)
		}
		g = anyGames(random, teams, 5)
		least, often := math.MaxInt, map[int]int{}
		for i, team := range teams {
			for _, other := range teams[:i] {
				n := 0
				for _, x := range g {
					if x.Home == team && x.Away == other || x.Home == other && x.Away == team {
						n++
					}
				}
				least = min(least, n)
				often[n]++
			}
		}
		n, e := Alike(teams, g)
		equal(t, "Alike", e, api.OK)
		equal(t, fmt.Sprint(g), n, len(teams)*(len(teams)-1)/2-often[least])
	}
}
