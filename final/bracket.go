package final

import (
	"cmp"
	"math/bits"
	"slices"

	"benchwarmer/api"
	"benchwarmer/check"
)

// First returns the games of the first round.
func First(many int) ([]api.Pair2, api.Errno) {
	if e := wrongMany(many); e != api.OK {
		return nil, e
	}
	return opening(many), api.OK
}

// Fixed returns the games of the next round.
func Fixed(many int, winners []int) ([]api.Pair2, api.Errno) {
	if e := wrongMany(many); e != api.OK {
		return nil, e
	}
	if e := wrongWinners(many, winners); e != api.OK {
		return nil, e
	}
	return meetings(winners), api.OK
}

// Anew pairs those who are left by their seeds.
func Anew(left []int) ([]api.Pair2, api.Errno) {
	if e := wrongLeft(left); e != api.OK {
		return nil, e
	}
	var games []api.Pair2
	if len(left)%2 == 1 {
		games = append(games, api.Pair2{High: left[0]})
		left = left[1:]
	}
	for i := range len(left) / 2 {
		games = append(games, api.Pair2{High: left[i], Low: left[len(left)-1-i]})
	}
	return games, api.OK
}

// Rounds returns how many rounds there are.
func Rounds(many int) (int, api.Errno) {
	if e := wrongMany(many); e != api.OK {
		return 0, e
	}
	return depth(many), api.OK
}

// Earliest returns in which round two seeds can meet first.
func Earliest(many, a, b int) (int, api.Errno) {
	e := cmp.Or(
		wrongMany(many),
		check.Unless(check.Between(a, 1, many) && check.Between(b, 1, many), api.ErrArg),
		check.Unless(a != b, api.ErrTwice))
	if e != api.OK {
		return 0, e
	}
	// Each round halves the numbers of places, and two meet in the one that makes theirs equal.
	all := places(many)
	return bits.Len(uint(slices.Index(all, a) ^ slices.Index(all, b))), api.OK
}

func wrongMany(many int) api.Errno {
	return check.Unless(check.Between(many, leastSeeds, api.MaxTeams), api.ErrArg)
}

// wrongWinners says what is wrong with the winners of a round, of a number of seeds with which nothing is wrong.
func wrongWinners(many int, winners []int) api.Errno {
	if len(winners) > api.MaxTeams {
		return api.ErrLarge
	}
	all := places(many)
	if len(winners) < leastSeeds || len(winners) > len(all)/2 || len(all)%len(winners) != 0 {
		return api.ErrForm
	}
	size := len(all) / len(winners)
	return check.Each(len(winners), api.MaxTeams, func(i int) api.Errno {
		part := all[i*size : (i+1)*size]
		return cmp.Or(
			check.Unless(check.Between(winners[i], 1, many), api.ErrArg),
			check.Unless(!slices.Contains(winners[:i], winners[i]), api.ErrTwice),
			check.Unless(slices.Contains(part, winners[i]), api.ErrConflict))
	})
}

// wrongLeft says what is wrong with the seeds that are left.
func wrongLeft(left []int) api.Errno {
	return cmp.Or(
		check.Unless(len(left) >= leastSeeds, api.ErrNone),
		check.Each(len(left), api.MaxTeams, func(i int) api.Errno {
			return cmp.Or(
				check.Unless(check.Between(left[i], 1, api.MaxTeams), api.ErrArg),
				check.Unless(i == 0 || left[i-1] < left[i], api.ErrOrder))
		}))
}

// depth returns how many rounds a bracket of so many seeds has.
func depth(many int) int {
	return bits.Len(uint(many - 1))
}

// places returns the seeds on the places of a bracket, in order; some of them can be greater than many.
func places(many int) []int {
	all := []int{1}
	for range depth(many) {
		together := 2*len(all) + 1
		var next []int
		for _, p := range all {
			next = append(next, p, together-p)
		}
		all = next
	}
	return all
}

// opening returns the games of the first round of so many seeds.
func opening(many int) []api.Pair2 {
	games := meetings(places(many))
	for i, g := range games {
		if g.Low > many {
			games[i].Low = 0
		}
	}
	return games
}

// meetings returns the games in which seeds that follow each other meet; of a single one there is none.
func meetings(seeds []int) []api.Pair2 {
	var games []api.Pair2
	for i := 1; i < len(seeds); i += 2 {
		games = append(games, api.Pair2{High: min(seeds[i-1], seeds[i]), Low: max(seeds[i-1], seeds[i])})
	}
	return games
}
