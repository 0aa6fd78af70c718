package trade

import (
	"cmp"
	"slices"

	"benchwarmer/api"
	"benchwarmer/check"
)

// maxFor is how many players there can be For one.
const maxFor = 20

// nobody stands for the number of a player where there is none.
const nobody = -1

// CheckWants says what is wrong with wants.
func CheckWants(m api.Market, o []api.Owner, w []api.Wants) api.Errno {
	if e := CheckOwners(m, o); e != api.OK {
		return e
	}
	teams := holdingOf(m, o).teams
	wrongPlayer := func(player string) api.Errno {
		return check.Unless(teams[player] != "", api.ErrNone)
	}
	return check.Each(len(w), api.MaxPlayers, func(i int) api.Errno {
		x := w[i]
		return cmp.Or(
			wrongPlayer(x.Player),
			check.Unless(i == 0 || w[i-1].Player < x.Player, api.ErrOrder),
			check.Each(len(x.For), maxFor, func(j int) api.Errno {
				return cmp.Or(
					wrongPlayer(x.For[j]),
					check.Unless(!slices.Contains(x.For[:j], x.For[j]), api.ErrTwice),
					check.Unless(teams[x.For[j]] != teams[x.Player], api.ErrRule))
			}))
	})
}

// Rings returns the rings in which each one gets what they want most.
func Rings(m api.Market, o []api.Owner, w []api.Wants) ([][]string, api.Errno) {
	if e := CheckWants(m, o, w); e != api.OK {
		return nil, e
	}
	liked := likedIn(w)
	gone := make([]bool, len(w))
	var rings [][]string
	for {
		ring := leastRing(point(liked, gone))
		if len(ring) == 0 {
			return rings, api.OK
		}
		var players []string
		for _, i := range ring {
			gone[i] = true
			players = append(players, w[i].Player)
		}
		rings = append(rings, players)
	}
}

// likedIn returns for each player of wants those of its For who are in wants, too; by their numbers.
func likedIn(w []api.Wants) [][]int {
	numbers := map[string]int{}
	for i, x := range w {
		numbers[x.Player] = i
	}
	liked := make([][]int, len(w))
	for i, x := range w {
		for _, player := range x.For {
			if number, there := numbers[player]; there {
				liked[i] = append(liked[i], number)
			}
		}
	}
	return liked
}

// point returns to whom each player points, nobody for those who are gone. Who points to nobody is gone then; others who pointed there point anew.
func point(liked [][]int, gone []bool) []int {
	to := make([]int, len(liked))
	for again := true; again; {
		again = false
		for i := range liked {
			to[i] = nobody
			if gone[i] {
				continue
			}
			if first := slices.IndexFunc(liked[i], func(j int) bool { return !gone[j] }); first >= 0 {
				to[i] = liked[i][first]
				continue
			}
			gone[i] = true
			again = true
		}
	}
	return to
}

// leastRing returns the ring with the least player, from this one on; none if there is no ring.
func leastRing(to []int) []int {
	for start := range to {
		// A walk that comes to a lesser one, or nobody, is in no ring whose least player is the start.
		ring := []int{start}
		at := to[start]
		for at > start && len(ring) < len(to) {
			ring = append(ring, at)
			at = to[at]
		}
		if at == start {
			return ring
		}
	}
	return nil
}
