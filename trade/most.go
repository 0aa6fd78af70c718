package trade

import (
	"math/bits"
	"slices"
	"strings"

	"benchwarmer/api"
)

// maxMost is of how many wants Most tries all trades.
const maxMost = 14

// Most returns a trade of as many players as possible.
func Most(m api.Market, o []api.Owner, w []api.Wants) ([]api.Give, api.Errno) {
	if e := CheckWants(m, o, w); e != api.OK {
		return nil, e
	}
	if len(w) > maxMost {
		return nil, api.ErrLarge
	}
	teams := holdingOf(m, o).teams
	var gives []api.Give
	for i, got := range bestTrade(likedIn(w)) {
		if got != i {
			player := w[got].Player
			gives = append(gives, api.Give{Player: player, From: teams[player], To: teams[w[i].Player]})
		}
	}
	slices.SortFunc(gives, func(x, y api.Give) int { return strings.Compare(x.Player, y.Player) })
	return gives, api.OK
}

// impossible is below all merits.
const impossible = -1

// bestTrade returns who is got for each player: one who stays gets itself. So everybody is got by one just, and for the players to come it matters only who is got already by those before.
func bestTrade(liked [][]int) []int {
	many := len(liked)
	best := make([]int, 1<<many) // by the set of those who are got already: the greatest merit of the players to come
	with := func(got, i, j int) int {
		rest := best[got|1<<j]
		if rest == impossible {
			return impossible
		}
		return merit(many, i, j) + rest
	}
	for got := 1<<many - 2; got >= 0; got-- {
		i := bits.OnesCount(uint(got))
		best[got] = impossible
		for _, j := range choices(liked, i, got) {
			best[got] = max(best[got], with(got, i, j))
		}
	}
	var trade []int
	got := 0
	for i := range many {
		l := choices(liked, i, got)
		first := slices.IndexFunc(l, func(j int) bool { return with(got, i, j) == best[got] })
		trade = append(trade, l[first])
		got |= 1 << l[first]
	}
	return trade
}

// choices returns those whom a player can get if some are got already: itself, and those of its For, in their order.
func choices(liked [][]int, i, got int) []int {
	return slices.DeleteFunc(append([]int{i}, liked[i]...), func(j int) bool { return got>>j&1 == 1 })
}

// merit returns what it counts that a player gets another one, or stays: one more who goes counts more than all who stay, and one who stays more than all later ones. So trades with the same merit are those in which the same players stay.
func merit(many, i, j int) int {
	if i == j {
		return 1 << (many - 1 - i)
	}
	return 1 << many
}
