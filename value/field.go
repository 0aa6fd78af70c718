package value

import (
	"cmp"
	"slices"
	"strings"

	"benchwarmer/api"
	"benchwarmer/check"
)

// Fielded returns the most that a team can bring.
func Fielded(l []api.Asset, p []api.Place) (int, []string, api.Errno) {
	if e := wrongTeam(l, p); e != api.OK {
		return 0, nil, e
	}
	sum := 0
	var who []string
	for _, x := range poolOf(l, p).fielded(everybody) {
		sum += x.Value
		who = append(who, x.Player)
	}
	slices.Sort(who)
	return sum, who, api.OK
}

// Brings returns by how much a team brings more with a further asset.
func Brings(l []api.Asset, p []api.Place, x api.Asset) (int, api.Errno) {
	e := cmp.Or(
		wrongTeam(l, p),
		CheckAssets([]api.Asset{x}),
		check.Unless(!isIn(l, x.Player), api.ErrTwice),
		check.Unless(len(l) < api.MaxAssets, api.ErrFull))
	if e != api.OK {
		return 0, e
	}
	all := poolOf(append(slices.Clone(l), x), p)
	return all.most(everybody) - all.most(everybodyBut(x.Player)), api.OK
}

// Drop returns the player without whom a team brings least less.
func Drop(l []api.Asset, p []api.Place) (string, bool, api.Errno) {
	if e := wrongTeam(l, p); e != api.OK {
		return "", false, e
	}
	if len(l) == 0 {
		return "", false, api.OK
	}
	all := poolOf(l, p)
	without := map[string]int{} // by player: the most that the others bring
	for _, x := range l {
		without[x.Player] = all.most(everybodyBut(x.Player))
	}
	first := slices.MinFunc(l, func(x, y api.Asset) int {
		return cmp.Or(
			cmp.Compare(without[y.Player], without[x.Player]),
			cmp.Compare(x.Value, y.Value),
			strings.Compare(y.Player, x.Player))
	})
	return first.Player, true, api.OK
}

// pool is whom teams can field.
type pool struct {
	places     []api.Place
	candidates []candidate // the greatest Value first, of equal ones by Player
}

// candidate is an asset that is worth fielding, with the number of the place of its position.
type candidate struct {
	api.Asset
	place int
}

func poolOf(l []api.Asset, p []api.Place) pool {
	numbers := map[string]int{}
	for i, x := range p {
		numbers[x.Position] = i
	}
	x := pool{places: p}
	for _, asset := range ranked(l) {
		if place, placed := numbers[asset.Position]; placed && asset.Value > 0 {
			x.candidates = append(x.candidates, candidate{asset, place})
		}
	}
	return x
}

// fielded returns whom a team fields that has some of the pool.
func (x pool) fielded(has func(player string) bool) []candidate {
	many := make([]int, len(x.places))
	var those []candidate
	for _, c := range x.candidates {
		if many[c.place] < x.places[c.place].Many && has(c.Player) {
			many[c.place]++
			those = append(those, c)
		}
	}
	return those
}

// most returns what a team brings that has some of the pool.
func (x pool) most(has func(player string) bool) int {
	sum := 0
	for _, c := range x.fielded(has) {
		sum += c.Value
	}
	return sum
}

func everybody(string) bool {
	return true
}

func everybodyBut(one string) func(player string) bool {
	return func(player string) bool { return player != one }
}
