package match

import (
	"math"
	"slices"
	"testing"

	"benchwarmer/api"
)

// P7.1: Schedule.
func TestSchedule(t *testing.T) {
	for _, x := range []struct {
		name  string
		teams []string
		weeks int
		want  string
	}{
		{"the document's", four(), 2, "1 a d,1 b c,2 b d,2 c a"},
		{"one week", four(), 1, "1 a d,1 b c"},
		{"round and round", four(), 7, "1 a d,1 b c,2 b d,2 c a,3 b a,3 c d,4 a d,4 c b,5 c a,5 d b,6 b a,6 d c,7 a d,7 b c"},
		{"two teams", four()[:2], 4, "1 b a,2 b a,3 b a,4 b a"},
		{"three teams", four()[:3], 7, "1 b c,2 c a,3 b a,4 c b,5 c a,6 b a,7 b c"},
		{"one is idle each week", []string{"a", "b", "c", "d", "e"}, 2, "1 b e,1 c d,2 c b,2 e a"},
		{"six teams", []string{"a", "b", "c", "d", "e", "f"}, 2, "1 a f,1 b e,1 c d,2 c b,2 d f,2 e a"},
	} {
		g, e := Schedule(x.teams, x.weeks)
		equal(t, x.name, e, api.OK)
		equal(t, x.name, shown(g), x.want)
	}
}

// P7.1: errors of Schedule.
func TestScheduleErrors(t *testing.T) {
	for _, x := range []struct {
		name  string
		teams []string
		weeks int
		want  api.Errno
	}{
		{"no weeks", four(), 0, api.ErrArg},
		{"less", four(), -1, api.ErrArg},
		{"the least", four(), math.MinInt, api.ErrArg},
		{"too many", four(), api.MaxWeeks + 1, api.ErrArg},
		{"the most", four(), math.MaxInt, api.ErrArg},
		{"all weeks", four(), api.MaxWeeks, api.OK},
		{"one team", four()[:1], 0, api.ErrNone},
		{"too many teams", keys(api.MaxTeams + 1), 0, api.ErrLarge},
		{"no key", []string{"a", "B"}, 0, api.ErrName},
		{"order", []string{"b", "a"}, 0, api.ErrOrder},
	} {
		g, e := Schedule(x.teams, x.weeks)
		equal(t, x.name, e, x.want)
		equal(t, x.name, len(g) > 0, e == api.OK)
	}
}

// placeIn returns on which of n places a team stands in a week, by its number.
func placeIn(number, week, n int) int {
	if number == 0 {
		return 0
	}
	return 1 + (number-1+week-1)%(n-1)
}

// P7.1: Schedule as it is told, for each pair of teams and each week.
func TestSchedulePlainly(t *testing.T) {
	for many := 2; many <= api.MaxTeams; many++ {
		teams := keys(many)
		n := many + many%2
		var want []api.Game
		for week := 1; week <= api.MaxWeeks; week++ {
			for home := range teams {
				for away := range teams {
					p, q := placeIn(home, week, n), placeIn(away, week, n)
					meet := p+q == n-1
					first := p < q
					if week%2 == 0 {
						first = !first
					}
					if (p == 0 || q == 0) && week/(n-1)%2 != 0 {
						first = !first
					}
					if meet && first {
						want = append(want, api.Game{Week: week, Home: key(home), Away: key(away)})
					}
				}
			}
		}
		g, e := Schedule(teams, api.MaxWeeks)
		equal(t, "Schedule", e, api.OK)
		list(t, "Schedule", g, want)
		equal(t, "Schedule", CheckGames(teams, g), api.OK)
		for weeks := range api.MaxWeeks {
			if weeks == 0 {
				continue
			}
			g, _ := Schedule(teams, weeks)
			end := slices.IndexFunc(want, func(x api.Game) bool { return x.Week > weeks })
			list(t, "fewer weeks", g, want[:end])
		}
	}
}

// P7.1: when all have gone round, each two teams have met just once, and as often as others each time.
func TestScheduleRound(t *testing.T) {
	for many := 2; many <= api.MaxTeams; many++ {
		round := many + many%2 - 1
		for rounds := 1; rounds*round <= api.MaxWeeks; rounds++ {
			g, e := Schedule(keys(many), rounds*round)
			equal(t, "Schedule", e, api.OK)
			equal(t, "games", len(g), rounds*many*(many-1)/2)
			n, e := Alike(keys(many), g)
			equal(t, "Alike", e, api.OK)
			equal(t, "Alike", n, 0)
		}
	}
}
