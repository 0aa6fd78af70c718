package match

import (
	"cmp"
	"slices"

	"benchwarmer/api"
	"benchwarmer/check"
)

// nobody stands on the place that is empty.
const nobody = ""

// Schedule makes fixtures by the circle.
func Schedule(teams []string, weeks int) ([]api.Game, api.Errno) {
	e := cmp.Or(CheckTeams(teams), check.Unless(check.Week(weeks), api.ErrArg))
	if e != api.OK {
		return nil, e
	}
	places := slices.Clone(teams)
	if len(places)%2 == 1 {
		places = append(places, nobody)
	}
	last := len(places) - 1
	var games []api.Game
	for week := 1; week <= weeks; week++ {
		games = append(games, meetings(places, week)...)
		places = slices.Concat(places[:1], places[last:], places[1:last])
	}
	slices.SortFunc(games, compareGames)
	return games, api.OK
}

// meetings returns the games of a week, of teams that stand on these places then.
func meetings(places []string, week int) []api.Game {
	last := len(places) - 1
	var games []api.Game
	for i := range len(places) / 2 {
		home, away := places[i], places[last-i]
		if home == nobody || away == nobody {
			continue
		}
		turned := week%2 == 0
		if i == 0 && week/last%2 == 1 {
			turned = !turned
		}
		if turned {
			home, away = away, home
		}
		games = append(games, api.Game{Week: week, Home: home, Away: away})
	}
	return games
}
