package value

import (
	"cmp"
	"slices"
	"strconv"

	"benchwarmer/api"
	"benchwarmer/check"
)

// Levels returns the level of each position.
func Levels(l []api.Asset, p []api.Place, teams int) ([]api.Pair, api.Errno) {
	if e := wrongLeague(l, p, teams); e != api.OK {
		return nil, e
	}
	levels := levelsOf(l, p, teams)
	var pairs []api.Pair
	for _, x := range p {
		pairs = append(pairs, api.Pair{Name: x.Position, Value: strconv.Itoa(levels[x.Position])})
	}
	return pairs, api.OK
}

// Worths returns by how much assets are worth more than those who are free.
func Worths(l []api.Asset, p []api.Place, teams int) ([]api.Over, api.Errno) {
	if e := wrongLeague(l, p, teams); e != api.OK {
		return nil, e
	}
	return worthsOf(l, p, teams), api.OK
}

// Prices divides what all teams have together.
func Prices(l []api.Asset, p []api.Place, teams, budget int) ([]api.Pair, api.Errno) {
	e := cmp.Or(
		wrongLeague(l, p, teams),
		check.Unless(check.Between(budget, 0, api.MaxValue), api.ErrArg))
	if e != api.OK {
		return nil, e
	}
	paid := slices.DeleteFunc(worthsOf(l, p, teams), func(x api.Over) bool { return x.Worth <= 0 })
	if len(paid) == 0 {
		return nil, api.OK
	}
	left := teams*budget - len(paid)
	if left < 0 {
		return nil, api.ErrFull
	}
	shares := divided(left, paid)
	var pairs []api.Pair
	for i, x := range paid {
		pairs = append(pairs, api.Pair{Name: x.Player, Value: strconv.Itoa(1 + shares[i])})
	}
	return pairs, api.OK
}

// wrongLeague says what is wrong with assets, places or the number of teams.
func wrongLeague(l []api.Asset, p []api.Place, teams int) api.Errno {
	return cmp.Or(
		wrongTeam(l, p),
		check.Unless(check.Between(teams, 1, api.MaxTeams), api.ErrArg))
}

// levelsOf returns the levels by position, of places for which there is somebody.
func levelsOf(l []api.Asset, p []api.Place, teams int) map[string]int {
	values := map[string][]int{} // by position, the greatest first
	for _, x := range ranked(l) {
		values[x.Position] = append(values[x.Position], x.Value)
	}
	levels := map[string]int{}
	for _, x := range p {
		if v := values[x.Position]; len(v) > 0 {
			levels[x.Position] = v[min(x.Many*teams, len(v)-1)]
		}
	}
	return levels
}

// worthsOf returns the worths of the assets whose position has a place, the greatest first.
func worthsOf(l []api.Asset, p []api.Place, teams int) []api.Over {
	levels := levelsOf(l, p, teams)
	var w []api.Over
	for _, x := range l {
		if level, placed := levels[x.Position]; placed {
			w = append(w, api.Over{Player: x.Player, Worth: x.Value - level})
		}
	}
	// Assets rise by Player, and so do those of equal Worth if they stay as they are.
	slices.SortStableFunc(w, func(x, y api.Over) int { return cmp.Compare(y.Worth, x.Worth) })
	for i := range w {
		w[i].Rank = 1 + i
		if i > 0 && w[i-1].Worth == w[i].Worth {
			w[i].Rank = w[i-1].Rank
		}
	}
	return w
}

// divided divides a number by worths, all of them above 0, by largest remainders.
func divided(number int, w []api.Over) []int {
	all := 0
	for _, x := range w {
		all += x.Worth
	}
	shares := make([]int, len(w))
	order := make([]int, len(w))
	left := number
	for i, x := range w {
		shares[i] = number * x.Worth / all
		order[i] = i
		left -= shares[i]
	}
	remainder := func(i int) int { return number * w[i].Worth % all }
	slices.SortStableFunc(order, func(i, j int) int { return cmp.Compare(remainder(j), remainder(i)) })
	for _, i := range order[:left] {
		shares[i]++
	}
	return shares
}
