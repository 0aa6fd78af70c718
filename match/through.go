package match

import (
	"cmp"
	"slices"

	"benchwarmer/api"
	"benchwarmer/check"
)

// Through returns the teams that are in for each way.
func Through(teams []string, g []api.Game, places int) ([]string, api.Errno) {
	return always(teams, g, places, in)
}

// Out returns the teams that are beyond for each way.
func Out(teams []string, g []api.Game, places int) ([]string, api.Errno) {
	return always(teams, g, places, beyond)
}

// Needs returns with how many Points a team is surely in.
func Needs(teams []string, g []api.Game, team string, places int) (int, bool, api.Errno) {
	e := cmp.Or(
		CheckGames(teams, g),
		wrongPlaces(teams, places),
		wrongTeam(teams, team),
		wrongOpen(g))
	if e != api.OK {
		return 0, false, e
	}
	number := slices.Index(teams, team)
	all := ways(teams, g)
	// A total is enough if it is above each one with which the team can miss the places.
	missed := -1
	for _, points := range all {
		if !in(points, number, places) {
			missed = max(missed, points[number])
		}
	}
	var enough []int
	for _, points := range all {
		if points[number] > missed {
			enough = append(enough, points[number])
		}
	}
	if len(enough) == 0 {
		return 0, false, api.OK
	}
	return slices.Min(enough), true, api.OK
}

// Worst returns the best and the worst Rank that a team can have.
func Worst(teams []string, g []api.Game, team string) (int, int, api.Errno) {
	e := cmp.Or(
		CheckGames(teams, g),
		wrongTeam(teams, team),
		wrongOpen(g))
	if e != api.OK {
		return 0, 0, e
	}
	number := slices.Index(teams, team)
	var ranks []int
	for _, points := range ways(teams, g) {
		ranks = append(ranks, 1+more(points, number))
	}
	return slices.Min(ranks), slices.Max(ranks), api.OK
}

func wrongPlaces(teams []string, places int) api.Errno {
	return check.Unless(check.Between(places, 1, len(teams)), api.ErrArg)
}

// wrongOpen returns an error if there are too many games that are not played.
func wrongOpen(g []api.Game) api.Errno {
	return check.Unless(len(openOf(g)) <= api.MaxOpen, api.ErrLarge)
}

// openOf returns the games that are not played.
func openOf(g []api.Game) []api.Game {
	return slices.DeleteFunc(slices.Clone(g), func(x api.Game) bool { return x.Played })
}

// always returns the teams of which something is so for each way.
func always(teams []string, g []api.Game, places int, is func(points []int, number, places int) bool) ([]string, api.Errno) {
	e := cmp.Or(
		CheckGames(teams, g),
		wrongPlaces(teams, places),
		wrongOpen(g))
	if e != api.OK {
		return nil, e
	}
	all := ways(teams, g)
	var those []string
	for number, team := range teams {
		if !slices.ContainsFunc(all, func(points []int) bool { return !is(points, number, places) }) {
			those = append(those, team)
		}
	}
	return those, api.OK
}

// ways returns for each way in which the games end that are not played the Points of all teams then.
func ways(teams []string, g []api.Game) [][]int {
	numbers := map[string]int{}
	now := make([]int, len(teams))
	points := sums(sides(g), side.worth)
	for number, team := range teams {
		numbers[team] = number
		now[number] = points[team]
	}
	all := [][]int{now}
	for _, x := range openOf(g) {
		var further [][]int
		for _, before := range all {
			for home := range 3 {
				then := slices.Clone(before)
				then[numbers[x.Home]] += home
				then[numbers[x.Away]] += 2 - home
				further = append(further, then)
			}
		}
		all = further
	}
	return all
}

// in says whether a team is in.
func in(points []int, number, places int) bool {
	// The team itself is one of those that have at least as many.
	return atLeast(points, points[number]) <= places
}

// beyond says whether a team is beyond.
func beyond(points []int, number, places int) bool {
	return more(points, number) >= places
}

// more returns how many have more Points than a team.
func more(points []int, number int) int {
	return atLeast(points, points[number]+1)
}

// atLeast returns how many have at least so many Points.
func atLeast(points []int, least int) int {
	many := 0
	for _, n := range points {
		if n >= least {
			many++
		}
	}
	return many
}
