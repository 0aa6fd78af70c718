package trade

import (
	"cmp"

	"benchwarmer/api"
)

// Clash returns the pairs of offers that exclude each other.
func Clash(m api.Market, o []api.Owner, l []api.Offer) ([]api.Pair, api.Errno) {
	if e := cmp.Or(CheckOwners(m, o), CheckOffers(m, l)); e != api.OK {
		return nil, e
	}
	before := holdingOf(m, o)
	var alone []api.Offer
	for _, x := range l {
		if before.can(x) {
			alone = append(alone, x)
		}
	}
	behind := make([][]bool, len(alone)) // of each one, which of them can be done behind it
	for i, x := range alone {
		after := holdingOf(m, o)
		after.do(x)
		for _, y := range alone {
			behind[i] = append(behind[i], after.can(y))
		}
	}
	var pairs []api.Pair
	for i, x := range alone {
		for j := i + 1; j < len(alone); j++ {
			if !behind[i][j] && !behind[j][i] {
				pairs = append(pairs, api.Pair{Name: x.Id, Value: alone[j].Id})
			}
		}
	}
	return pairs, api.OK
}
