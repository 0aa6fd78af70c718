package value

import (
	"math/big"
	"math/rand/v2"
	"slices"
	"strings"
	"testing"

	"benchwarmer/api"
)

// chance makes a chance of words NUM/DEN.
func chance(all string) api.Chance {
	w := strings.Fields(all)
	return api.Chance{Win: frac(w[0]), Draw: frac(w[1]), Lose: frac(w[2])}
}

// P8.3: Chances.
func TestChances(t *testing.T) {
	for _, x := range []struct {
		name, a, b, want string
	}{
		{"nobody", "", "", "0/1 1/1 0/1"},
		{"nobody against somebody", "", "a 1:1", "0/1 0/1 1/1"},
		{"nobody against 0", "", "a 0:9", "0/1 1/1 0/1"},
		{"nobody against less", "", "a -1:1", "1/1 0/1 0/1"},
		{"two who are alike", "a 0:1 2:1", "b 0:1 2:1", "1/4 1/2 1/4"},
		{"the same player", "a 0:1 2:1", "a 0:1 2:1", "1/4 1/2 1/4"},
		{"never the same", "a 0:1 2:1", "b 1:1", "1/2 0/1 1/2"},
		{"always more", "a 3:1 4:7", "b 0:1 2:1", "1/1 0/1 0/1"},
		{"weights", "a 0:1 2:2", "b 1:3 2:1", "1/2 1/6 1/3"},
		{"two and one", "a 0:1 1:1,b 0:1 1:1", "c 1:1", "1/4 1/2 1/4"},
		{"below 0", "a -5:1 1:3", "b -4:1", "3/4 0/1 1/4"},
		{"1 of very many ways", "a 0:999 1:1,b 0:999 1:1", "c 1:999 2:1", "999/1000000000 1996003/1000000000 499001499/500000000"},
	} {
		c, e := Chances(hopes(x.a), hopes(x.b))
		equal(t, x.name, e, api.OK)
		equal(t, x.name, c, chance(x.want))
	}
}

// P8.3: errors of Chances, and how much it counts at most.
func TestChancesErrors(t *testing.T) {
	million := manyHopes(2, "0:500 1:500")
	for _, x := range []struct {
		name string
		a, b []api.Hope
		want api.Errno
	}{
		{"nothing wrong", hopes("a 0:1"), hopes("b 0:1"), api.OK},
		{"the first", hopes("b 0:1,a 0:1"), hopes("A 0:1"), api.ErrOrder},
		{"the second", hopes("a 0:1"), hopes("A 0:1"), api.ErrName},
		{"the second, with the first too large", manyHopes(12, "0:1000 1:1000"), hopes("a 0:0"), api.ErrArg},
		{"the first has one sum too many", more(spreadOut(), "0:1 1:1"), nil, api.ErrFull},
		{"the second has one sum too many", nil, more(spreadOut(), "0:1 1:1"), api.ErrFull},
		{"both have as many sums as there can be", spreadOut(), more(spreadOut(), "1:1000"), api.OK},
		{"together as many ways as there can be", million, million, api.OK},
		{"together too many ways", million, more(million, "1:2"), api.ErrFull},
		{"together too many ways", more(million, "1:2"), million, api.ErrFull},
		{"one has as many ways as there can be", manyHopes(4, "0:999 1:1"), hopes("a 0:1"), api.OK},
		{"and the other one has two", manyHopes(4, "0:999 1:1"), hopes("a 0:1 1:1"), api.ErrFull},
		{"more ways than a number can hold", manyHopes(12, "0:64"), manyHopes(12, "0:64"), api.ErrFull},
	} {
		c, e := Chances(x.a, x.b)
		equal(t, x.name, e, x.want)
		equal(t, x.name, c != api.Chance{}, e == api.OK)
	}
	c, e := Chances(spreadOut(), more(spreadOut(), "1:1000"))
	equal(t, "many", e, api.OK)
	equal(t, "many", c, chance("199970001/400000000 19999/400000000 20001/40000"))
}

// plainChance goes through all ways of both teams: the other one's points are taken as points below 0.
func plainChance(a, b []api.Hope) api.Chance {
	all := slices.Clone(a)
	for _, x := range b {
		against := api.Hope{Player: x.Player}
		for _, o := range x.Outcomes {
			against.Outcomes = append(against.Outcomes, api.Outcome{Points: -o.Points, Weight: o.Weight})
		}
		all = append(all, against)
	}
	return api.Chance{
		Win:  exact(likely(all, func(points int) bool { return points > 0 })),
		Draw: exact(likely(all, func(points int) bool { return points == 0 })),
		Lose: exact(likely(all, func(points int) bool { return points < 0 })),
	}
}

// rat returns a fraction as a number that has no bound.
func rat(x api.Fraction) *big.Rat {
	return big.NewRat(int64(x.Num), int64(x.Den))
}

// P8.3: Chances as in a plain model; the three add up to 1, and what one team wins the other one loses.
func TestChancesPlainly(t *testing.T) {
	random := rand.New(rand.NewPCG(83, 2))
	for range 500 {
		a, b := anyHopes(random, "a", 4), anyHopes(random, "b", 4)
		c, e := Chances(a, b)
		equal(t, "Chances", e, api.OK)
		equal(t, "Chances", c, plainChance(a, b))
		sum := new(big.Rat).Add(rat(c.Win), new(big.Rat).Add(rat(c.Draw), rat(c.Lose)))
		equal(t, "all chances", exact(sum), frac("1/1"))
		turned, e := Chances(b, a)
		equal(t, "Chances", e, api.OK)
		equal(t, "Chances turned round", turned, api.Chance{Win: c.Lose, Draw: c.Draw, Lose: c.Win})
	}
}

// P8.3: Better.
func TestBetter(t *testing.T) {
	for _, x := range []struct {
		name, a, b, x, y string
		want             bool
	}{
		{"surely half of the time", "a 0:1 2:1", "b 0:1 2:1", "s 1:1", "a 0:1 2:1", true},
		{"as likely", "a 0:1 2:1", "b 1:1", "s 0:1 3:1", "a 0:1 2:1", false},
		{"as likely, with greater weights", "a 0:1 2:1", "b 1:1", "s 0:500 3:500", "a 0:1 2:1", false},
		{"as likely, with lesser weights", "a 0:500 2:500", "b 1:1", "s 0:1 3:1", "a 0:500 2:500", false},
		{"a little more likely", "a 0:500 2:500", "b 1:1", "s 0:499 2:500", "a 0:500 2:500", true},
		{"a little less likely", "a 0:500 2:500", "b 1:1", "s 0:501 2:500", "a 0:500 2:500", false},
		{"it draws more, but wins as often", "a 0:1 2:1", "b 1:1", "s 1:1 2:1", "a 0:1 2:1", false},
		{"it has more in the mean, but wins less", "a 0:1 2:1", "b 1:1", "s 0:2 1000:1", "a 0:1 2:1", false},
		{"one of several", "a 0:1,b 0:1 2:1,c 1:1", "d 2:1", "s 2:1", "b 0:1 2:1", true},
		{"the first of several", "a 1:1,b 0:1 2:1,c 1:1", "d 3:1", "s 2:1", "a 1:1", false},
		{"against nobody", "a 0:1", "", "s 1:1", "a 0:1", true},
		{"never wins", "a 0:1", "b 9:1", "s 1:1", "a 0:1", false},
		{"one who comes in front", "m 0:1,n 0:1", "b 0:1", "a 1:1", "n 0:1", true},
		{"a player of both teams", "a 0:1,c 0:1", "c 0:1", "s 1:1", "a 0:1", true},
		{"who is of both teams goes", "a 0:1,c 0:1", "c 0:1", "s 1:1", "c 0:1", true},
	} {
		better, e := Better(hopes(x.a), hopes(x.b), hope(x.x), hope(x.y))
		equal(t, x.name, e, api.OK)
		equal(t, x.name, better, x.want)
	}
}

// P8.3: errors of Better.
func TestBetterErrors(t *testing.T) {
	const wide = "0:1 20000:1"
	thousands := manyHopes(3, "0:999 1:1")
	for _, x := range []struct {
		name string
		a, b []api.Hope
		x, y string
		want api.Errno
	}{
		{"the first team", hopes("b 0:1,a 0:1"), hopes("A 0:1"), "B", "A 0:1", api.ErrOrder},
		{"the second team", hopes("a 0:1"), hopes("A 0:1"), "s", "s 0:0", api.ErrName},
		{"the new one", hopes("a 0:1"), hopes("b 0:1"), "s", "s 0:0", api.ErrNone},
		{"the old one", hopes("a 0:1"), hopes("b 0:1"), "b 0:1", "s 0:0", api.ErrArg},
		{"the old one is not there", hopes("a 0:1"), hopes("b 0:1"), "b 0:1", "c 0:1", api.ErrNone},
		{"it is in the other team", hopes("a 0:1"), hopes("b 0:1"), "s 0:1", "b 0:1", api.ErrNone},
		{"it has another weight", hopes("a 0:1"), hopes("b 0:1"), "s 0:1", "a 0:2", api.ErrNone},
		{"it has other points", hopes("a 0:1"), hopes("b 0:1"), "s 0:1", "a 1:1", api.ErrNone},
		{"it has more outcomes", hopes("a 0:1"), hopes("b 0:1"), "s 0:1", "a 0:1 1:1", api.ErrNone},
		{"it has fewer outcomes", hopes("a 0:1 1:1"), hopes("b 0:1"), "s 0:1", "a 0:1", api.ErrNone},
		{"it has another name", hopes("a 0:1"), hopes("b 0:1"), "s 0:1", "c 0:1", api.ErrNone},
		{"nobody is there", nil, nil, "s 0:1", "a 0:1", api.ErrNone},
		{"the new one is the old one", hopes("a 0:1"), hopes("b 0:1"), "a 0:1", "a 0:1", api.ErrTwice},
		{"the new one has the name of the old one", hopes("a 0:1"), hopes("b 0:1"), "a 1:1", "a 0:1", api.ErrTwice},
		{"the new one is in the first team", hopes("a 0:1,c 0:1"), hopes("b 0:1"), "c 7:1", "a 0:1", api.ErrTwice},
		{"the new one is in the second team", hopes("a 0:1"), hopes("b 0:1"), "b 7:1", "a 0:1", api.ErrTwice},
		{"twice, and too much", more(spreadOut(), "0:1 1:1"), nil, "z 0:1", "z 0:1 1:1", api.ErrTwice},
		{"too many sums now", more(spreadOut(), "0:1 1:1"), nil, "s 0:1", "z 0:1 1:1", api.ErrFull},
		{"too many sums of the other team", hopes("a 0:1"), more(spreadOut(), "0:1 1:1"), "s 1:1", "a 0:1", api.ErrFull},
		{"too many sums then", more(spreadOut(), "0:1"), nil, "s " + wide, "z 0:1", api.ErrFull},
		{"just not too many sums", more(spreadOut(), "0:1"), nil, "s 1:1", "z 0:1", api.OK},
		{"too many ways now", more(thousands, "0:1000 1:1"), nil, "s 0:1", "z 0:1000 1:1", api.ErrFull},
		{"too many ways then", more(thousands, "0:1"), nil, "s 0:1000 1:1", "z 0:1", api.ErrFull},
		{"too many ways then, together", more(thousands, "0:1"), hopes("b 0:500 1:500"), "s 1:2", "z 0:1", api.ErrFull},
		{"just not too many ways, together", more(thousands, "0:1"), hopes("b 0:500 1:500"), "s 1:1", "z 0:1", api.OK},
	} {
		better, e := Better(x.a, x.b, hope(x.x), hope(x.y))
		equal(t, x.name, e, x.want)
		equal(t, x.name, better, e == api.OK)
	}
}

// P8.3: Better as in a plain model; what is more likely for one is less so for the other.
func TestBetterPlainly(t *testing.T) {
	random := rand.New(rand.NewPCG(83, 3))
	for range 500 {
		a, b, x := anyHopes(random, "a", 3), anyHopes(random, "b", 3), anyHope(random, "s")
		if len(a) == 0 {
			continue
		}
		i := random.IntN(len(a))
		better, e := Better(a, b, x, a[i])
		equal(t, "Better", e, api.OK)
		now := plainChance(a, b)
		with := slices.Clone(a)
		with[i] = x
		then := plainChance(with, b)
		equal(t, "Better", better, rat(then.Win).Cmp(rat(now.Win)) > 0)
		slices.SortFunc(with, func(x, y api.Hope) int { return strings.Compare(x.Player, y.Player) })
		theirs, e := Chances(b, with)
		equal(t, "Chances", e, api.OK)
		before, e := Chances(b, a)
		equal(t, "Chances", e, api.OK)
		equal(t, "the other team loses more often", better, rat(theirs.Lose).Cmp(rat(before.Lose)) > 0)
	}
}

// P8.3: chances that differ by as little as they can, of as many ways as there can be.
func TestBetterGreatly(t *testing.T) {
	a := manyHopes(3, "0:999 1:1")
	b := hopes("b 2:1")
	for _, x := range []struct {
		x, y string
		want bool
	}{
		{"s 0:1 1:999", "z 0:2 1:998", true},
		{"s 0:2 1:998", "z 0:1 1:999", false},
		{"s 0:1 1:999", "z 0:1 1:999", false},
		{"s 0:1 1:998", "z 0:1 1:999", false},
		{"s 0:1 1:999", "z 0:1 1:998", true},
		{"s 0:1 1:1", "z 0:500 1:500", false},
		{"s 0:500 1:500", "z 0:1 1:1", false},
		{"s 0:499 1:500", "z 0:1 1:1", true},
	} {
		better, e := Better(append(slices.Clone(a), hope(x.y)), b, hope(x.x), hope(x.y))
		equal(t, x.x, e, api.OK)
		equal(t, x.x, better, x.want)
	}
}
