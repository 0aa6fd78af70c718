package value

import (
	"math"
	"math/big"
	"math/rand/v2"
	"slices"
	"testing"

	"benchwarmer/api"
)

// P8.3: CheckHopes.
func TestCheckHopes(t *testing.T) {
	const eight = "a 1:1 2:1 3:1 4:1 5:1 6:1 7:1 8:1"
	for _, x := range []struct {
		all  string
		want api.Errno
	}{
		{"", api.OK},
		{"a 0:1", api.OK},
		{"a -100000:1 100000:1000", api.OK},
		{"a 1:1,b 1:1", api.OK},
		{"a-_0 -1:1 0:7 1:1", api.OK},
		{eight, api.OK},
		{"A 1:1", api.ErrName},
		{"A", api.ErrName},
		{"a 1:1,a 1:1", api.ErrOrder},
		{"b 1:1,a 1:1", api.ErrOrder},
		{"b 1:1,A", api.ErrName},
		{"b 1:1,a", api.ErrOrder},
		{"a", api.ErrNone},
		{"a 1:1,b", api.ErrNone},
		{"a,A 1:1", api.ErrNone},
		{eight + " 9:1", api.ErrLarge},
		{eight + " 9:0", api.ErrLarge},
		{"a 1:0", api.ErrArg},
		{"a 1:-1", api.ErrArg},
		{"a 1:1001", api.ErrArg},
		{"a 100001:1", api.ErrArg},
		{"a -100001:1", api.ErrArg},
		{"a 1:1 2:0", api.ErrArg},
		{"a 1:1 1:1", api.ErrOrder},
		{"a 2:1 1:1", api.ErrOrder},
		{"a 2:1 1:0", api.ErrArg},
		{"a 2:1 1:1 3:0", api.ErrOrder},
		{"a 2:1 1:1,A 1:1", api.ErrOrder},
		{"a 1:0,A 1:1", api.ErrArg},
	} {
		equal(t, x.all, CheckHopes(hopes(x.all)), x.want)
	}
	for _, word := range wrongKeys() {
		equal(t, word, CheckHopes([]api.Hope{{Player: word, Outcomes: outcomes("1:1")}}), api.ErrName)
	}
	for _, n := range []int{math.MinInt, math.MaxInt} {
		equal(t, "points", CheckHopes([]api.Hope{{Player: "a", Outcomes: []api.Outcome{{Points: n, Weight: 1}}}}), api.ErrArg)
		equal(t, "weight", CheckHopes([]api.Hope{{Player: "a", Outcomes: []api.Outcome{{Points: 1, Weight: n}}}}), api.ErrArg)
	}
	equal(t, "as many as there can be", CheckHopes(manyHopes(api.MaxFielded, "0:1 1:1")), api.OK)
	equal(t, "one more", CheckHopes(manyHopes(api.MaxFielded+1, "0:1 1:1")), api.ErrLarge)
	equal(t, "one more, all of them wrong", CheckHopes(make([]api.Hope, api.MaxFielded+1)), api.ErrLarge)
}

// P8.3: Mean.
func TestMean(t *testing.T) {
	for _, x := range []struct {
		hopes, want string
	}{
		{"", "0/1"},
		{"a 7:1", "7/1"},
		{"a 7:1000", "7/1"},
		{"a 0:1 1:1", "1/2"},
		{"a 0:1 1:2", "2/3"},
		{"a 0:2 1:1", "1/3"},
		{"a -1:1 1:1", "0/1"},
		{"a -3:1 1:1 2:1 5:3", "5/2"},
		{"a -1:2 1:1", "-1/3"},
		{"a 0:1 2:1,b 0:1 2:1", "2/1"},
		{"a 0:1 1:1,b 0:1 1:2", "7/6"},
		{"a 0:1 1:1,b 0:2 1:1,c 0:4 1:1", "31/30"},
		{"a -100000:1,b -100000:1000", "-200000/1"},
	} {
		f, e := Mean(hopes(x.hopes))
		equal(t, x.hopes, e, api.OK)
		equal(t, x.hopes, f, frac(x.want))
	}
}

// P8.3: Spread.
func TestSpread(t *testing.T) {
	for _, x := range []struct {
		hopes, want string
	}{
		{"", "0:1"},
		{"a 7:5", "7:5"},
		{"a -1:2 0:1 5:3", "-1:2 0:1 5:3"},
		{"a 0:1 2:1,b 0:1 2:1", "0:1 2:2 4:1"},
		{"a 0:1 1:2,b 0:3 1:5", "0:3 1:11 2:10"},
		{"a 0:2 3:3,b -1:5", "-1:10 2:15"},
		{"a -2:1 2:1,b -1:1 1:1", "-3:1 -1:1 1:1 3:1"},
		{"a 0:1 1:1,b 0:1 1:1,c 0:1 1:1", "0:1 1:3 2:3 3:1"},
		{"a 1:1000,b 1:1000", "2:1000000"},
		{"a 0:1000 1:1000,b 0:1000 1:1000", "0:1000000 1:2000000 2:1000000"},
		{"a -100000:1 100000:1,b -100000:1 100000:1", "-200000:1 0:2 200000:1"},
	} {
		l, e := Spread(hopes(x.hopes))
		equal(t, x.hopes, e, api.OK)
		list(t, x.hopes, l, outcomes(x.want))
	}
}

// P8.3: Above.
func TestAbove(t *testing.T) {
	const dice = "a 0:1 2:1,b 0:1 2:1"
	for _, x := range []struct {
		hopes  string
		points int
		want   string
	}{
		{dice, -1, "1/1"},
		{dice, 0, "1/1"},
		{dice, 1, "3/4"},
		{dice, 2, "3/4"},
		{dice, 3, "1/4"},
		{dice, 4, "1/4"},
		{dice, 5, "0/1"},
		{"", 0, "1/1"},
		{"", 1, "0/1"},
		{"", -1, "1/1"},
		{"a -2:1 -1:2 0:3", -2, "1/1"},
		{"a -2:1 -1:2 0:3", -1, "5/6"},
		{"a -2:1 -1:2 0:3", 0, "1/2"},
		{"a -2:1 -1:2 0:3", 1, "0/1"},
		{dice, 12_000_000, "0/1"},
		{dice, -12_000_000, "1/1"},
	} {
		f, e := Above(hopes(x.hopes), x.points)
		equal(t, x.hopes, e, api.OK)
		equal(t, x.hopes, f, frac(x.want))
	}
}

// more is a hope with one more player, behind all others.
func more(h []api.Hope, all string) []api.Hope {
	return append(slices.Clone(h), hope("z "+all))
}

// P8.3: errors of Mean, Spread and Above, and how much they count at most.
func TestHopeErrors(t *testing.T) {
	thousands := manyHopes(4, "0:250 1:250 2:500")
	for _, x := range []struct {
		name   string
		h      []api.Hope
		points int
		want   api.Errno // of Mean and Spread
		above  api.Errno
	}{
		{"nothing wrong", hopes("a 0:1"), 0, api.OK, api.OK},
		{"hopes", hopes("b 0:1,a 0:1"), math.MaxInt, api.ErrOrder, api.ErrOrder},
		{"too many points", hopes("a 0:1"), 12_000_001, api.OK, api.ErrArg},
		{"too many points below 0", hopes("a 0:1"), -12_000_001, api.OK, api.ErrArg},
		{"far too many points", hopes("a 0:1"), math.MaxInt, api.OK, api.ErrArg},
		{"far too many points below 0", hopes("a 0:1"), math.MinInt, api.OK, api.ErrArg},
		{"as many sums as there can be", spreadOut(), 0, api.OK, api.OK},
		{"as many sums, all 1 more", more(spreadOut(), "1:1000"), 0, api.OK, api.OK},
		{"one sum more", more(spreadOut(), "0:1 1:1"), 0, api.ErrFull, api.ErrFull},
		{"one sum more, before others", slices.Concat(hopes("a 0:1 1:1"), spreadOut()), 0, api.ErrFull, api.ErrFull},
		{"one sum more, and too many points", more(spreadOut(), "0:1 1:1"), math.MaxInt, api.ErrFull, api.ErrFull},
		{"as many ways as there can be", thousands, 0, api.OK, api.OK},
		{"as many ways, with one more", more(thousands, "1:1"), 0, api.OK, api.OK},
		{"too many ways", more(thousands, "1:2"), 0, api.ErrFull, api.ErrFull},
		{"too many ways, and too many points", more(thousands, "1:2"), math.MinInt, api.ErrFull, api.ErrFull},
		{"three with as many ways as one can have", manyHopes(3, "0:1000 1:1000 2:1000 3:1000 4:1000 5:1000 6:1000 7:1000"), 0, api.OK, api.OK},
		{"four of them", manyHopes(4, "0:1000 1:1000 2:1000 3:1000 4:1000 5:1000 6:1000 7:1000"), 0, api.ErrFull, api.ErrFull},
		{"more ways than a number can hold", manyHopes(api.MaxFielded, "0:1000 1:1000 2:1000 3:1000 4:1000 5:1000 6:1000 7:1000"), 0, api.ErrFull, api.ErrFull},
		{"as many ways as 2 to the 66th", manyHopes(11, "0:64"), 0, api.ErrFull, api.ErrFull},
	} {
		f, e := Mean(x.h)
		equal(t, x.name, e, x.want)
		equal(t, x.name, f.Den > 0, e == api.OK)
		l, e := Spread(x.h)
		equal(t, x.name, e, x.want)
		equal(t, x.name, len(l) > 0, e == api.OK)
		f, e = Above(x.h, x.points)
		equal(t, x.name, e, x.above)
		equal(t, x.name, f.Den > 0, e == api.OK)
	}
	l, e := Spread(spreadOut())
	equal(t, "as many sums as there can be", e, api.OK)
	equal(t, "as many sums as there can be", len(l), api.MaxChances)
	for i, x := range l {
		equal(t, "as many sums as there can be", x, api.Outcome{Points: i, Weight: 1})
	}
}

// P8.3: the greatest numbers: nothing overflows.
func TestGreatHopes(t *testing.T) {
	h := append(manyHopes(8, "100000:1"), manyHopes(12, "99999:1 100000:999")[8:]...)
	equal(t, "hopes", CheckHopes(h), api.OK)
	sum := big.NewRat(8*100_000, 1)
	for range 4 {
		sum.Add(sum, new(big.Rat).Sub(big.NewRat(100_000, 1), big.NewRat(1, 1_000)))
	}
	f, e := Mean(h)
	equal(t, "Mean", e, api.OK)
	equal(t, "Mean", f, exact(sum))
	f, e = Above(h, 1_200_000)
	equal(t, "Above", e, api.OK)
	equal(t, "Above", f, api.Fraction{Num: 999 * 999 * 999 * 999, Den: 1_000_000_000_000})
	l, e := Spread(h)
	equal(t, "Spread", e, api.OK)
	equal(t, "Spread", len(l), 5)
	equal(t, "Spread", l[0], api.Outcome{Points: 1_199_996, Weight: 1})
	equal(t, "Spread", l[4], api.Outcome{Points: 1_200_000, Weight: 999 * 999 * 999 * 999})
}

// P8.3: Mean, Spread and Above as in a plain model that goes through all ways.
func TestHopesPlainly(t *testing.T) {
	random := rand.New(rand.NewPCG(83, 1))
	for range 1_000 {
		h := anyHopes(random, "a", 5)
		sums := map[int]int{}
		mean := new(big.Rat)
		all := each(h, func(points int, ways *big.Int) {
			sums[points] += int(ways.Int64())
			mean.Add(mean, new(big.Rat).SetInt(new(big.Int).Mul(big.NewInt(int64(points)), ways)))
		})
		mean.Quo(mean, new(big.Rat).SetInt(all))
		f, e := Mean(h)
		equal(t, "Mean", e, api.OK)
		equal(t, "Mean", f, exact(mean))
		l, e := Spread(h)
		equal(t, "Spread", e, api.OK)
		equal(t, "Spread", len(l), len(sums))
		for i, x := range l {
			equal(t, "Spread", x.Weight, sums[x.Points])
			equal(t, "Spread rises", i == 0 || l[i-1].Points < x.Points, true)
		}
		least := random.IntN(40) - 15
		f, e = Above(h, least)
		equal(t, "Above", e, api.OK)
		equal(t, "Above", f, exact(likely(h, func(points int) bool { return points >= least })))
	}
}
