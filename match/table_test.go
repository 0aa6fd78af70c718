package match

import (
	"fmt"
	"math/rand/v2"
	"slices"
	"strings"
	"testing"

	"benchwarmer/api"
)

// ranking writes rank and team of standings, with blanks between.
func ranking(l []api.Standing) string {
	var all []string
	for _, x := range l {
		all = append(all, fmt.Sprint(x.Rank, x.Team))
	}
	return strings.Join(all, " ")
}

// P7.3: what standings have.
func TestStandings(t *testing.T) {
	g := games("1 a b 9 1,1 c d 3/2 3/2,2 a c 1/4 1/2,2 d b -1/100 -1/50,3 a b,4 d a 1/5 0")
	l, e := Table(four(), g, nil)
	equal(t, "Table", e, api.OK)
	list(t, "Table", l, []api.Standing{
		{Rank: 1, Team: "d", Wins: 2, Draws: 1, Points: 5, For: frac("169/100"), Against: frac("37/25")},
		{Rank: 2, Team: "c", Wins: 1, Draws: 1, Points: 3, For: frac("2"), Against: frac("7/4")},
		{Rank: 3, Team: "a", Wins: 1, Lost: 2, Points: 2, For: frac("37/4"), Against: frac("17/10")},
		{Rank: 4, Team: "b", Lost: 2, For: frac("49/50"), Against: frac("899/100")},
	})
	for _, g := range [][]api.Game{nil, games("1 a b,1 c d,2 c d")} {
		l, e := Table(four(), g, []int{api.BreakHead, api.BreakFor, api.BreakDiff, api.BreakWins, api.BreakRecent})
		equal(t, "nothing is played", e, api.OK)
		var want []api.Standing
		for _, team := range four() {
			want = append(want, api.Standing{Rank: 1, Team: team, For: frac("0"), Against: frac("0")})
		}
		list(t, "nothing is played", l, want)
	}
	l, e = Table(keys(api.MaxTeams), fullSeason(600, api.MaxWeeks), nil)
	equal(t, "sums", e, api.OK)
	equal(t, "sums", l[0], api.Standing{Rank: 1, Team: key(1), Wins: 60, Points: 120, For: frac("60000000"), Against: frac("-299999997/5")})
	equal(t, "sums", l[19], api.Standing{Rank: 11, Team: key(18), Lost: 60, For: frac("-299999997/5"), Against: frac("60000000")})
}

// P7.3: tie-breaks.
func TestBreaks(t *testing.T) {
	const (
		head   = api.BreakHead
		most   = api.BreakFor
		diff   = api.BreakDiff
		wins   = api.BreakWins
		recent = api.BreakRecent
	)
	ring := "1 a b 9 1,1 c d 3 2,2 b c 5 4,2 d a 8 0"
	for _, x := range []struct {
		name, games string
		breaks      []int
		want        string
	}{
		{"none: by name", ring, nil, "1a 1b 1c 1d"},
		{"the tests'", ring, []int{head, most}, "1d 2a 3c 4b"},
		{"For", ring, []int{most}, "1d 2a 3c 4b"},
		{"Diff", "1 a b 5 1,1 c d 5 3,2 b c 2 1,2 d a 1 0", []int{diff}, "1a 2c 3d 4b"},
		{"For, not Diff", "1 a b 2 0,1 c d 9 8", []int{most}, "1c 2a 3d 4b"},
		{"equal For", "1 a b 5 1,1 c d 5 3", []int{most}, "1a 1c 3d 4b"},
		{"For, then Diff", "1 c d 5 1,1 a b 5 3", []int{most, diff}, "1c 2a 3b 4d"},
		{"Diff, not For", "1 a b 2 0,1 c d 9 8", []int{diff}, "1a 2c 3d 4b"},
		{"Diff, then For", "1 a b 2 0,1 c d 9 7", []int{diff, most}, "1c 2a 3d 4b"},
		{"Head of four, who are all equal", "1 b a 1 0,1 c d 9 0,2 c a 0 9,2 b d 0 1", []int{head}, "1a 1b 1c 1d"},
		{"Head of two", "1 b a 1 0,2 a c 9 0", []int{head}, "1b 2a 3c 3d"},
		{"Head twice", "1 b a 1 0,2 a b 9 0", []int{head}, "1a 1b 3c 3d"},
		{"Head and then For", "1 b a 1 0,2 a b 9 0", []int{head, most}, "1a 2b 3c 3d"},
		{"Head of three", "1 c b 1 0,2 b a 1 0,3 a c 0 0,4 b d 0 0,5 a d 1 0", []int{head}, "1c 2b 3a 4d"},
		{"Head of three, two of whom are equal", "1 a b 3 0,2 b c 2 0,3 c a 1 0,4 d c 9 0,5 d b 9 0,6 b d 1 0,7 c d 1 0", []int{head}, "1b 1d 3c 4a"},
		{"Head is counted anew behind For", "1 b a 3 1,2 a c 2 0,3 c b 5 0", []int{most, head}, "1c 2b 3a 4d"},
		{"Head before For", "1 b a 3 1,2 a c 2 0,3 c b 5 0", []int{head, most}, "1c 2a 2b 4d"},
		{"Head is not asked again for its parts", "1 a b 1 0,2 b c 1 0,3 a c 0 0,4 b c 0 0,5 c d 0 0", []int{head}, "1a 1b 3c 4d"},
		{"Head is not asked again, but For is", "1 a b 1 0,2 b c 5 0,3 a c 0 0,4 b c 0 0,5 c d 0 0", []int{head, most}, "1b 2a 3c 4d"},
		{"Wins", "1 a b 1 1,2 a b 1 1,1 c d 1 0,2 d c 1 0", []int{wins}, "1c 1d 3a 3b"},
		{"Recent", "1 a b 1 0,2 a b 0 0,3 a b 0 0,4 a b 0 1", []int{recent}, "1b 2a 3c 3d"},
		{"Recent of three games", "1 a b 1 0,2 a b 0 1,3 a b 1 0,4 a b 0 1", []int{recent}, "1b 2a 3c 3d"},
		{"Recent of fewer games", "1 a b 1 0,2 a b 0 1", []int{recent}, "1a 1b 3c 3d"},
		{"Recent not of games to come", "1 a b 1 0,2 a b 0 1,3 a b 1 0,4 a b 0 1,5 a b,6 a b,7 a b", []int{recent}, "1b 2a 3c 3d"},
		{"Recent in other weeks", "1 a b 1 0,2 a b 0 1,3 a b 1 0,4 a b 0 1,5 c d 1 0,6 c d 0 1,7 c d 1 0,8 c d 0 1", []int{recent}, "1b 1d 3a 3c"},
		{"Points before all", "1 a b 1 0,2 b a 1 0,1 c d 0 9,2 c d 9 9", []int{most, diff}, "1d 2a 2b 4c"},
		{"a part is parted by the next one", "1 a b 1 1,1 c d 2 2,2 a c 1 1,2 b d 1 1", []int{wins, most}, "1c 1d 3a 3b"},
	} {
		x.games = inOrder(x.games)
		l, e := Table(four(), games(x.games), x.breaks)
		equal(t, x.name, e, api.OK)
		equal(t, x.name, ranking(l), x.want)
	}
}

// inOrder puts the lines of games in order.
func inOrder(all string) string {
	lines := strings.Split(all, ",")
	slices.SortStableFunc(lines, func(x, y string) int { return compareGames(gameOf(x), gameOf(y)) })
	return strings.Join(lines, ",")
}

// P7.3: errors of Table and At.
func TestTableErrors(t *testing.T) {
	for _, x := range []struct {
		name, games string
		breaks      []int
		week        int
		want        api.Errno
	}{
		{"games", "1 a a", []int{0}, 0, api.ErrTwice},
		{"all", "", []int{5, 4, 3, 2, 1}, 60, api.OK},
		{"too many", "", []int{0, 0, 1, 1, 2, 2}, 0, api.ErrLarge},
		{"too many that there are", "", []int{1, 2, 3, 4, 5, 1}, 0, api.ErrLarge},
		{"kind 0", "", []int{0}, 0, api.ErrKind},
		{"kind 6", "", []int{6}, 0, api.ErrKind},
		{"kind below 0", "", []int{-1}, 0, api.ErrKind},
		{"kind 0 twice", "", []int{0, 0}, 0, api.ErrKind},
		{"twice", "", []int{1, 2, 1}, 0, api.ErrTwice},
		{"twice, and a kind that is not", "", []int{1, 1, 0}, 0, api.ErrTwice},
		{"a kind that is not, and twice", "", []int{1, 0, 1}, 0, api.ErrKind},
	} {
		l, e := Table(four(), games(x.games), x.breaks)
		equal(t, x.name, e, x.want)
		equal(t, x.name, len(l) > 0, e == api.OK)
		l, e = At(four(), games(x.games), x.breaks, x.week)
		equal(t, x.name, e, x.want)
		equal(t, x.name, len(l) > 0, e == api.OK)
	}
	for week, want := range map[int]api.Errno{-1: api.ErrArg, 0: api.ErrArg, 1: api.OK, api.MaxWeeks: api.OK, api.MaxWeeks + 1: api.ErrArg} {
		l, e := At(four(), nil, nil, week)
		equal(t, "week", e, want)
		equal(t, "week", len(l) > 0, e == api.OK)
	}
	for _, teams := range [][]string{nil, {"a"}, keys(api.MaxTeams + 1), {"A", "b"}, {"b", "a"}} {
		_, e := Table(teams, nil, []int{0})
		equal(t, "teams", e, CheckTeams(teams))
		_, e = At(teams, nil, []int{0}, 0)
		equal(t, "teams", e, CheckTeams(teams))
	}
}

// P7.3: At.
func TestAt(t *testing.T) {
	g := games("1 a b 1 0,1 c d 1 1,3 a c 0 2,3 b d,4 a b 0 1,4 c d 1 0,60 a b 5 0")
	for week, want := range map[int]string{1: "1a 2c 2d 4b", 2: "1a 2c 2d 4b", 3: "1c 2a 3d 4b", 4: "1c 2a 2b 4d", 59: "1c 2a 2b 4d", 60: "1c 2a 3b 4d"} {
		l, e := At(four(), g, []int{api.BreakWins}, week)
		equal(t, "At", e, api.OK)
		equal(t, fmt.Sprint("At ", week), ranking(l), want)
	}
}

// plain is a standing with all that it is put in order by.
type plain struct {
	api.Standing
	made, against int // hundredths
}

// hundredths returns how many hundredths points are.
func hundredths(x api.Fraction) int { return x.Num * 100 / x.Den }

// matchPoints returns what a team gets for a game, 0 if it is of others or not played.
func matchPoints(x api.Game, team string) int {
	home, away := hundredths2(x)
	switch {
	case !x.Played || team != x.Home && team != x.Away:
		return 0
	case home == away:
		return 1
	case (home > away) == (team == x.Home):
		return 2
	}
	return 0
}

func hundredths2(x api.Game) (int, int) {
	if !x.Played {
		return 0, 0
	}
	return hundredths(x.For), hundredths(x.Other)
}

// plainStanding counts what a team has got.
func plainStanding(g []api.Game, team string) plain {
	p := plain{Standing: api.Standing{Team: team}}
	for _, x := range g {
		home, away := hundredths2(x)
		if x.Away == team {
			home, away = away, home
		}
		if !x.Played || x.Home != team && x.Away != team {
			continue
		}
		switch matchPoints(x, team) {
		case 2:
			p.Wins++
		case 1:
			p.Draws++
		default:
			p.Lost++
		}
		p.Points += matchPoints(x, team)
		p.made += home
		p.against += away
	}
	return p
}

// plainMerit returns by what a team of a group is put in order.
func plainMerit(kind int, g []api.Game, group []string, team string) int {
	p := plainStanding(g, team)
	switch kind {
	case 0:
		return p.Points
	case api.BreakHead:
		all := 0
		for _, x := range g {
			if slices.Contains(group, x.Home) && slices.Contains(group, x.Away) {
				all += matchPoints(x, team)
			}
		}
		return all
	case api.BreakFor:
		return p.made
	case api.BreakDiff:
		return p.made - p.against
	case api.BreakWins:
		return p.Wins
	}
	all, many := 0, 0
	for i := len(g) - 1; i >= 0 && many < 3; i-- {
		if g[i].Played && (g[i].Home == team || g[i].Away == team) {
			all += matchPoints(g[i], team)
			many++
		}
	}
	return all
}

// plainTable returns the standings of a group of teams behind some others.
func plainTable(g []api.Game, group []string, kinds []int, before int) []api.Standing {
	if len(kinds) == 0 || len(group) == 1 {
		var l []api.Standing
		for _, team := range group {
			p := plainStanding(g, team)
			p.Rank = before + 1
			p.For, p.Against = lowest(p.made), lowest(p.against)
			l = append(l, p.Standing)
		}
		return l
	}
	parts := map[int][]string{}
	var merits []int
	for _, team := range group {
		merit := plainMerit(kinds[0], g, group, team)
		parts[merit] = append(parts[merit], team)
		merits = append(merits, merit)
	}
	slices.Sort(merits)
	var l []api.Standing
	for _, merit := range slices.Backward(slices.Compact(merits)) {
		l = append(l, plainTable(g, parts[merit], kinds[1:], before+len(l))...)
	}
	return l
}

// lowest returns so many hundredths in lowest terms.
func lowest(many int) api.Fraction {
	x := api.Fraction{Num: many, Den: 100}
	for _, d := range []int{2, 2, 5, 5} {
		if x.Num%d == 0 && x.Den%d == 0 {
			x = api.Fraction{Num: x.Num / d, Den: x.Den / d}
		}
	}
	return x
}

// P7.3: Table and At as they are told.
func TestTablePlainly(t *testing.T) {
	random := rand.New(rand.NewPCG(73, 1))
	shared, parted := 0, 0
	for range 3_000 {
		teams := anyTeams(random)
		g := anyGames(random, teams, random.IntN(10))
		breaks := anyBreaks(random)
		want := plainTable(g, teams, append([]int{0}, breaks...), 0)
		l, e := Table(teams, g, breaks)
		equal(t, "Table", e, api.OK)
		list(t, fmt.Sprint(g, breaks), l, want)
		for i := 1; i < len(l); i++ {
			if l[i].Rank == l[i-1].Rank {
				shared++
			} else if l[i].Points == l[i-1].Points {
				parted++
			}
		}
		week := 1 + random.IntN(6)
		upTo := slices.DeleteFunc(slices.Clone(g), func(x api.Game) bool { return x.Week > week })
		l, e = At(teams, g, breaks, week)
		equal(t, "At", e, api.OK)
		list(t, fmt.Sprint(g, breaks, week), l, plainTable(upTo, teams, append([]int{0}, breaks...), 0))
	}
	if shared < 300 || parted < 300 {
		t.Errorf("only %d ranks are shared, and %d are parted", shared, parted)
	}
}
