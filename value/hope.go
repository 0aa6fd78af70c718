package value

import (
	"cmp"
	"maps"
	"slices"

	"benchwarmer/api"
	"benchwarmer/check"
	"benchwarmer/fraction"
)

// maxWays is in how many ways, by the weights of outcomes, all can end.
const maxWays = 1_000_000_000_000

// maxAbove is how many points Above can be asked for, and how many below 0.
const maxAbove = 10 * api.MaxFielded * api.MaxCount

// CheckHopes says what is wrong with hopes.
func CheckHopes(h []api.Hope) api.Errno {
	return check.Each(len(h), api.MaxFielded, func(i int) api.Errno {
		x := h[i]
		return cmp.Or(
			check.Unless(check.Key(x.Player), api.ErrName),
			check.Unless(i == 0 || h[i-1].Player < x.Player, api.ErrOrder),
			check.Unless(len(x.Outcomes) > 0, api.ErrNone),
			wrongOutcomes(x.Outcomes))
	})
}

// Mean returns the mean of the sum of all.
func Mean(h []api.Hope) (api.Fraction, api.Errno) {
	l, e := Spread(h)
	if e != api.OK {
		return api.Fraction{}, e
	}
	sum := 0
	for _, x := range l {
		sum += x.Points * x.Weight
	}
	return fraction.Of(sum, weights(l)), api.OK
}

// Spread returns the outcomes of the sum.
func Spread(h []api.Hope) ([]api.Outcome, api.Errno) {
	if e := CheckHopes(h); e != api.OK {
		return nil, e
	}
	if !countable(h) {
		return nil, api.ErrFull
	}
	return spread(h)
}

// Above returns how likely the sum is at least so many points.
func Above(h []api.Hope, points int) (api.Fraction, api.Errno) {
	l, e := Spread(h)
	e = cmp.Or(e, check.Unless(check.Between(points, -maxAbove, maxAbove), api.ErrArg))
	if e != api.OK {
		return api.Fraction{}, e
	}
	above := slices.DeleteFunc(slices.Clone(l), func(x api.Outcome) bool { return x.Points < points })
	return fraction.Of(weights(above), weights(l)), api.OK
}

// wrongOutcomes says what is wrong with the outcomes of a hope.
func wrongOutcomes(l []api.Outcome) api.Errno {
	return check.Each(len(l), api.MaxOutcomes, func(i int) api.Errno {
		x := l[i]
		right := check.Between(x.Points, -api.MaxCount, api.MaxCount) && check.Between(x.Weight, 1, api.MaxWeight)
		return cmp.Or(
			check.Unless(right, api.ErrArg),
			check.Unless(i == 0 || l[i-1].Points < x.Points, api.ErrOrder))
	})
}

// weights returns the sum of the Weights of outcomes.
func weights(l []api.Outcome) int {
	sum := 0
	for _, x := range l {
		sum += x.Weight
	}
	return sum
}

// countable says whether hopes can end in no more than maxWays ways together.
func countable(h []api.Hope) bool {
	ways := 1
	for _, x := range h {
		ways *= weights(x.Outcomes)
		// Each factor is at least 1, so what is too much stays so; the next one could overflow.
		if ways > maxWays {
			return false
		}
	}
	return true
}

// spread returns the outcomes of the sum of hopes that are countable; ErrFull if there are too many.
func spread(h []api.Hope) ([]api.Outcome, api.Errno) {
	sums := map[int]int{0: 1} // by points: the weight
	for _, x := range h {
		further := map[int]int{}
		for points, weight := range sums {
			for _, o := range x.Outcomes {
				further[points+o.Points] += weight * o.Weight
			}
		}
		// With one more player there are never fewer sums.
		if len(further) > api.MaxChances {
			return nil, api.ErrFull
		}
		sums = further
	}
	var l []api.Outcome
	for _, points := range slices.Sorted(maps.Keys(sums)) {
		l = append(l, api.Outcome{Points: points, Weight: sums[points]})
	}
	return l, api.OK
}
