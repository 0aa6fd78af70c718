package value

import (
	"cmp"
	"slices"

	"benchwarmer/api"
	"benchwarmer/check"
)

// maxSize is how many players each team can give in the offers that BestSwap tries.
const maxSize = 2

// maxTraders is how many players a team can have if all its offers are tried.
const maxTraders = 20

// Swap returns how much more both teams bring by an offer.
func Swap(a, b []api.Asset, p []api.Place, give, take []string) (int, int, api.Errno) {
	if e := wrongTeams(a, b, p); e != api.OK {
		return 0, 0, e
	}
	if e := cmp.Or(wrongPart(a, give), wrongPart(b, take)); e != api.OK {
		return 0, 0, e
	}
	own, other := gainsOf(a, b, p)(give, take)
	return own, other, api.OK
}

// BestSwap returns the offer by which both get most.
func BestSwap(a, b []api.Asset, p []api.Place, size int) ([]string, []string, bool, api.Errno) {
	e := cmp.Or(
		wrongTeams(a, b, p),
		check.Unless(check.Between(size, 1, maxSize), api.ErrArg),
		check.Unless(max(len(a), len(b)) <= maxTraders, api.ErrLarge))
	if e != api.OK {
		return nil, nil, false, e
	}
	gains := gainsOf(a, b, p)
	gives, takes := parts(a, size), parts(b, size)
	var best offer
	for _, give := range gives {
		for _, take := range takes {
			own, other := gains(give, take)
			x := offer{give, take, own, other}
			if min(own, other) > 0 && x.better(best) {
				best = x
			}
		}
	}
	return best.give, best.take, len(best.give) > 0, api.OK
}

// offer is what a team gives and takes, and how much more both teams bring then.
type offer struct {
	give, take []string
	own, other int
}

// better says whether an offer is to be preferred to one that was tried before.
func (x offer) better(before offer) bool {
	return cmp.Or(
		cmp.Compare(min(x.own, x.other), min(before.own, before.other)),
		cmp.Compare(x.own+x.other, before.own+before.other),
		cmp.Compare(before.players(), x.players())) > 0
}

func (x offer) players() int {
	return len(x.give) + len(x.take)
}

// wrongTeams says what is wrong with two teams, or the places.
func wrongTeams(a, b []api.Asset, p []api.Place) api.Errno {
	if e := cmp.Or(CheckAssets(a), CheckAssets(b), CheckPlaces(p)); e != api.OK {
		return e
	}
	both := slices.ContainsFunc(a, func(x api.Asset) bool { return isIn(b, x.Player) })
	return check.Unless(!both, api.ErrTwice)
}

// wrongPart says what is wrong with some players of a team.
func wrongPart(team []api.Asset, players []string) api.Errno {
	return check.Each(len(players), len(players), func(i int) api.Errno {
		return cmp.Or(
			check.Unless(isIn(team, players[i]), api.ErrNone),
			check.Unless(!slices.Contains(players[:i], players[i]), api.ErrTwice))
	})
}

// gainsOf returns a function that says how much more two teams bring by an offer.
func gainsOf(a, b []api.Asset, p []api.Place) func(give, take []string) (int, int) {
	both := poolOf(slices.Concat(a, b), p)
	first := map[string]bool{}
	for _, x := range a {
		first[x.Player] = true
	}
	bring := func(moved []string) (int, int) {
		own := func(player string) bool { return first[player] != slices.Contains(moved, player) }
		other := func(player string) bool { return !own(player) }
		return both.most(own), both.most(other)
	}
	ownBefore, otherBefore := bring(nil)
	return func(give, take []string) (int, int) {
		own, other := bring(slices.Concat(give, take))
		return own - ownBefore, other - otherBefore
	}
}

// parts returns the lists of at most so many of a team's players, but at least one: element by element, a list that another one begins with first.
func parts(team []api.Asset, size int) [][]string {
	var l [][]string
	for i, x := range team {
		l = append(l, []string{x.Player})
		if size > 1 {
			for _, y := range team[i+1:] {
				l = append(l, []string{x.Player, y.Player})
			}
		}
	}
	return l
}
