package final

import (
	"cmp"
	"slices"

	"benchwarmer/api"
	"benchwarmer/check"
	"benchwarmer/fraction"
)

// maxTop is how many places lots can give out at most.
const maxTop = 4

// CheckWeights says what is wrong with teams and weights.
func CheckWeights(teams []string, weights []int) api.Errno {
	return cmp.Or(
		check.Unless(len(teams) > 0, api.ErrNone),
		check.Different(teams, api.MaxLots),
		check.Unless(len(weights) == len(teams), api.ErrForm),
		check.Each(len(weights), api.MaxLots, func(i int) api.Errno {
			return check.Unless(check.Between(weights[i], 1, api.MaxWeights), api.ErrArg)
		}))
}

// Draw gives out the first places by lots.
func Draw(teams []string, weights, lots []int, top int) ([]string, api.Errno) {
	e := cmp.Or(
		wrongTop(teams, weights, top),
		check.Unless(len(lots) == top, api.ErrForm),
		check.Each(len(lots), maxTop, func(i int) api.Errno {
			return check.Unless(lots[i] >= 0, api.ErrArg)
		}))
	if e != api.OK {
		return nil, e
	}
	var placed []int
	for _, lot := range lots {
		placed = append(placed, free(placed, drawn(weights, lot), len(teams)))
	}
	var order []string
	for _, i := range filled(placed, len(teams)) {
		order = append(order, teams[i])
	}
	return order, api.OK
}

// Chance returns with which probability a team gets a place.
func Chance(teams []string, weights []int, team string, place, top int) (api.Fraction, api.Errno) {
	e := cmp.Or(
		wrongTop(teams, weights, top),
		check.Unless(slices.Contains(teams, team), api.ErrNone),
		check.Unless(check.Between(place, 1, len(teams)), api.ErrArg))
	if e != api.OK {
		return api.Fraction{}, e
	}
	some, all := 0, 0
	orders(weights, top, func(order []int, ways int) {
		all += ways
		if teams[order[place-1]] == team {
			some += ways
		}
	})
	return fraction.Of(some, all), api.OK
}

// Fall returns by how many places a team can fall at most.
func Fall(teams []string, weights []int, top int) (int, api.Errno) {
	if e := wrongTop(teams, weights, top); e != api.OK {
		return 0, e
	}
	// A lot brings one team past another one at most; past the first team it can bring any, as no weight is 0.
	return min(top, len(teams)-1), api.OK
}

// Snake returns who picks in each round.
func Snake(order []string, rounds int) ([]string, api.Errno) {
	e := cmp.Or(
		CheckSeeds(order),
		check.Unless(check.Between(rounds, 1, api.MaxRoster), api.ErrArg))
	if e != api.OK {
		return nil, e
	}
	var turns []string
	round := slices.Clone(order)
	for range rounds {
		turns = append(turns, round...)
		slices.Reverse(round)
	}
	return turns, api.OK
}

// wrongTop says what is wrong with teams and weights, or with how many places lots give out.
func wrongTop(teams []string, weights []int, top int) api.Errno {
	return cmp.Or(
		CheckWeights(teams, weights),
		check.Unless(check.Between(top, 0, min(maxTop, len(teams))), api.ErrArg))
}

// drawn returns which team a lot draws, whether it has a place or not.
func drawn(weights []int, lot int) int {
	all := 0
	for _, w := range weights {
		all += w
	}
	n, i := lot%all, 0
	for n >= weights[i] {
		n -= weights[i]
		i++
	}
	return i
}

// free returns the first one of so many teams, from one on and round, that has no place.
func free(placed []int, from, many int) int {
	for slices.Contains(placed, from) {
		from = (from + 1) % many
	}
	return from
}

// filled returns the order of so many teams if some are placed: the others follow.
func filled(placed []int, many int) []int {
	order := slices.Clone(placed)
	for i := range many {
		if !slices.Contains(placed, i) {
			order = append(order, i)
		}
	}
	return order
}

// orders gives take each order that lots can make, and with how many rows of numbers they make it.
func orders(weights []int, top int, take func(order []int, ways int)) {
	many := len(weights)
	var place func(placed []int, ways int)
	place = func(placed []int, ways int) {
		if len(placed) == top {
			take(filled(placed, many), ways)
			return
		}
		numbers := make([]int, many) // how many of them give each team the next place
		for i, w := range weights {
			numbers[free(placed, i, many)] += w
		}
		for i, n := range numbers {
			if n > 0 {
				place(append(slices.Clone(placed), i), ways*n)
			}
		}
	}
	place(nil, 1)
}
