package trade

import (
	"maps"
	"slices"

	"benchwarmer/api"
	"benchwarmer/check"
)

// holding is who has whom.
type holding struct {
	market api.Market
	teams  map[string]string // the team of each player
	many   map[string]int    // how many players each team has
}

func holdingOf(m api.Market, o []api.Owner) holding {
	h := holding{m, map[string]string{}, map[string]int{}}
	for _, x := range o {
		h.teams[x.Player] = x.Team
		h.many[x.Team]++
	}
	return h
}

// fits says whether a team can have so many more players than it has.
func (h holding) fits(team string, more int) bool {
	return check.Between(h.many[team]+more, h.market.Least, h.market.Most)
}

// can says whether an offer can be done.
func (h holding) can(x api.Offer) bool {
	more := map[string]int{}
	for _, g := range x.Gives {
		if h.teams[g.Player] != g.From {
			return false
		}
		more[g.From]--
		more[g.To]++
	}
	for team, n := range more {
		if !h.fits(team, n) {
			return false
		}
	}
	return true
}

// do does an offer that can be done.
func (h holding) do(x api.Offer) {
	for _, g := range x.Gives {
		h.teams[g.Player] = g.To
		h.many[g.From]--
		h.many[g.To]++
	}
}

// list returns the owners, by Player.
func (h holding) list() []api.Owner {
	var o []api.Owner
	for _, player := range slices.Sorted(maps.Keys(h.teams)) {
		o = append(o, api.Owner{Player: player, Team: h.teams[player]})
	}
	return o
}
