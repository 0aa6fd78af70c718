package value

import (
	"cmp"
	"math"
	"math/bits"
	"math/rand/v2"
	"slices"
	"strings"
	"testing"

	"benchwarmer/api"
)

// P8.4: Swap.
func TestSwap(t *testing.T) {
	const first, second = "a gk 9,b gk 8,c df 1", "x mf 7,y mf 6,z df 3"
	const all = "df:1 gk:1 mf:1"
	for _, x := range []struct {
		name, a, b, places, give, take string
		own, other                     int
	}{
		{"nothing", first, second, all, "", "", 0, 0},
		{"both get more", first, second, all, "b", "y", 6, 8},
		{"the best of both", first, second, all, "a", "x", 6, 8},
		{"the best one for the second one", first, second, all, "a", "y", 5, 9},
		{"a gift", first, second, all, "b", "", 0, 8},
		{"a gift that is missed", first, second, all, "a", "", -1, 9},
		{"a gift from the other one", first, second, all, "", "y", 6, 0},
		{"a gift that is missed there", first, second, all, "", "x", 7, -1},
		{"for nothing good", first, second, all, "c", "z", 2, -2},
		{"all they have", first, second, all, "a b c", "x y z", 0, 0},
		{"in any order", first, second, all, "c b", "z y", 8, 6},
		{"no places", first, second, "", "a", "x", 0, 0},
		{"who is not fielded", "a gk 0,b gk -3", "x gk -9", "gk:2", "b", "x", 0, 0},
		{"equal ones", "a gk 5,b gk 5", "x gk 5,y gk 5", "gk:1", "a", "y", 0, 0},
		{"names between each other", "a gk 9,c gk 8", "b mf 7,d mf 6", all, "c", "d", 6, 8},
		{"to a team of nobody", "a gk 9", "", "gk:1", "a", "", -9, 9},
		{"the greatest", "a gk 1000000,b gk 1000000", "c df 1000000,d df -1000000", "df:2 gk:1", "a b", "c d", 0, 0},
		{"the greatest for nothing", "a gk 1000000,b gk 1000000", "", "gk:12", "b a", "", -2_000_000, 2_000_000},
	} {
		own, other, e := Swap(assets(x.a), assets(x.b), places(x.places), strings.Fields(x.give), strings.Fields(x.take))
		equal(t, x.name, e, api.OK)
		equal(t, x.name, own, x.own)
		equal(t, x.name, other, x.other)
		// Turned round it is the same.
		own, other, e = Swap(assets(x.b), assets(x.a), places(x.places), strings.Fields(x.take), strings.Fields(x.give))
		equal(t, x.name, e, api.OK)
		equal(t, x.name, own, x.other)
		equal(t, x.name, other, x.own)
	}
}

// P8.4: errors of Swap.
func TestSwapErrors(t *testing.T) {
	for _, x := range []struct {
		name, a, b, places, give, take string
		want                           api.Errno
	}{
		{"nothing wrong", "a gk 1", "b gk 2", "gk:1", "a", "b", api.OK},
		{"the first team", "b gk 1,a gk 1", "A gk 1", "GK:1", "z", "z", api.ErrOrder},
		{"the second team", "a gk 1", "A gk 1", "gk:13", "z", "z", api.ErrName},
		{"places", "a gk 1", "a gk 1", "gk:13", "z", "z", api.ErrArg},
		{"in both teams", "a gk 1,b gk 1", "b df 1,c gk 1", "gk:1", "z", "z", api.ErrTwice},
		{"the last one in both teams", "a gk 1,c gk 1", "b df 1,c gk 1", "gk:1", "a", "b", api.ErrTwice},
		{"give is nobody", "a gk 1", "b gk 2", "gk:1", "c", "b b", api.ErrNone},
		{"give is of the other team", "a gk 1", "b gk 2", "gk:1", "b", "b b", api.ErrNone},
		{"give is there before", "a gk 1", "b gk 2", "gk:1", "a a", "c", api.ErrTwice},
		{"give is there before, not next to it", "a gk 1,c gk 1", "b gk 2", "gk:1", "a c a", "c", api.ErrTwice},
		{"one after the other", "a gk 1", "b gk 2", "gk:1", "a a c", "c", api.ErrTwice},
		{"one after the other", "a gk 1", "b gk 2", "gk:1", "a c a", "b", api.ErrNone},
		{"nobody twice", "a gk 1", "b gk 2", "gk:1", "c c", "b", api.ErrNone},
		{"take is nobody", "a gk 1", "b gk 2", "gk:1", "a", "c", api.ErrNone},
		{"take is of the first team", "a gk 1", "b gk 2", "gk:1", "a", "a", api.ErrNone},
		{"take is there before", "a gk 1", "b gk 2", "gk:1", "a", "b b", api.ErrTwice},
		{"not a key", "a gk 1", "b gk 2", "gk:1", "A", "b", api.ErrNone},
		{"nobody in the teams", "", "", "gk:1", "a", "", api.ErrNone},
		{"nobody in the teams", "", "", "gk:1", "", "a", api.ErrNone},
	} {
		own, other, e := Swap(assets(x.a), assets(x.b), places(x.places), strings.Fields(x.give), strings.Fields(x.take))
		equal(t, x.name, e, x.want)
		equal(t, x.name, own != 0, e == api.OK)
		equal(t, x.name, other != 0, e == api.OK)
	}
	_, _, e := Swap(assets("a gk 1"), nil, nil, []string{""}, nil)
	equal(t, "no name", e, api.ErrNone)
	many := manyAssets(api.MaxAssets + 1)
	_, _, e = Swap(many, assets("A gk 1"), nil, nil, nil)
	equal(t, "too many", e, api.ErrLarge)
	_, _, e = Swap(nil, many, nil, nil, nil)
	equal(t, "too many", e, api.ErrLarge)
}

// P8.4: teams of as many as there can be, which can even become more.
func TestGreatSwap(t *testing.T) {
	a := manyAssets(api.MaxAssets)
	b := manyAssets(api.MaxAssets)
	var give []string
	for i := range a {
		a[i].Value = api.MaxValue
		b[i].Player, b[i].Value = "l"+key(i)[1:], -api.MaxValue
		give = append(give, a[i].Player)
	}
	slices.Reverse(give)
	own, other, e := Swap(a, b, places("gk:12"), give, nil)
	equal(t, "all of them", e, api.OK)
	equal(t, "all of them", own, -12*api.MaxValue)
	equal(t, "all of them", other, 12*api.MaxValue)
	own, other, e = Swap(a, b, places("gk:12"), give[:289], nil)
	equal(t, "all but 11", e, api.OK)
	equal(t, "all but 11", own, -api.MaxValue)
	equal(t, "all but 11", other, 12*api.MaxValue)
	_, _, e = Swap(a, b, places("gk:12"), append(give, give[0]), nil)
	equal(t, "one of them twice", e, api.ErrTwice)
	_, _, e = Swap(a, b, places("gk:12"), append(give, "z"), nil)
	equal(t, "one more", e, api.ErrNone)
}

// P8.4: BestSwap.
func TestBestSwap(t *testing.T) {
	const all = "df:1 gk:1 mf:1 st:1"
	for _, x := range []struct {
		name, a, b, places string
		size               int
		give, take         string
	}{
		{"one for one", "a gk 9,b gk 8", "x mf 7,y mf 6", all, 1, "b", "x"},
		{"nobody", "", "", all, 1, "", ""},
		{"nobody to give", "", "x mf 7", all, 2, "", ""},
		{"nobody to take", "a gk 9", "", all, 2, "", ""},
		{"no places", "a gk 9,b gk 8", "x mf 7,y mf 6", "", 2, "", ""},
		{"one gets nothing", "a gk 9", "x mf 7", all, 1, "", ""},
		{"one gets more, the other one as much", "a gk 9,b gk 8", "x mf 7,y gk 8", all, 2, "", ""},
		{"1 is enough", "a gk 2,b gk 2", "x mf 2,y mf 1", all, 1, "a", "x"},
		{"the greatest lesser one, not the most together", "a gk 9,b gk 8,c st 44", "v st 45,w st 50,x mf 2,y mf 2", all, 1, "a", "w"},
		{"the most together, not the first one", "a gk 9,b gk 7,c gk 8", "x mf 5,y mf 5", all, 1, "c", "x"},
		{"the most together, not the fewest players", "a gk 9,b gk 7,c df 3,d df 3", "x mf 5,y mf 5,z df 2", all, 2, "b c", "x"},
		{"as much together, the other way round", "a gk 9,b gk 8", "w mf 7,x mf 9,y mf 9", all, 1, "a", "x"},
		{"the first give", "a gk 9,b gk 9,c gk 9", "x mf 7,y mf 7", all, 1, "a", "x"},
		{"the first take", "a gk 9,b gk 8", "x mf 7,y mf 7,z mf 7", all, 1, "b", "x"},
		{"the first give, not the first take", "a gk 3,b gk 5,c mf 4", "x mf 3,y df 2", "df:2 gk:1 mf:2", 2, "a", "y"},
		{"the first give, also a longer one", "a gk 1,b gk 2,c df 6", "w mf 5,x mf 6,y df 3,z mf 6", "df:2 gk:2 mf:1 st:2", 2, "a b", "x"},
		{"the give with which another one begins", "a gk 2,b mf 3,c mf 2", "x df 2,y df 5,z gk 1", "df:1 gk:2 mf:2", 2, "a", "x z"},
		{"as few players as possible", "a gk 9,b gk 9,c df 0", "x mf 7,y mf 7,z st 0", all, 2, "a", "x"},
		{"two for two", "a gk 9,b gk 8,c df 9,d df 8", "w mf 7,x mf 6,y st 7,z st 6", all, 2, "b d", "w y"},
		{"one for one, as size is 1", "a gk 9,b gk 8,c df 9,d df 8", "w mf 7,x mf 6,y st 7,z st 6", all, 1, "b", "w"},
		{"two for one", "a gk 9,b gk 4,c df 9,d df 4", "w mf 8,x mf 8", all, 2, "b d", "w"},
		{"one for two", "a gk 9,b gk 9", "w mf 4,x mf 4,y st 4,z st 4", all, 2, "a", "w y"},
		{"below 0", "a gk -9,b gk -8", "x mf -7,y mf -6", all, 2, "", ""},
	} {
		give, take, there, e := BestSwap(assets(x.a), assets(x.b), places(x.places), x.size)
		equal(t, x.name, e, api.OK)
		equal(t, x.name, there, x.give != "")
		list(t, x.name, give, strings.Fields(x.give))
		list(t, x.name, take, strings.Fields(x.take))
	}
}

// P8.4: errors of BestSwap.
func TestBestSwapErrors(t *testing.T) {
	a, b := manyAssets(20), manyAssets(21)[:20]
	for i := range b {
		a[i].Value = 1
		b[i] = api.Asset{Player: "l" + key(i)[1:], Position: "df", Value: 1}
	}
	further := asset("z gk 1")
	for _, x := range []struct {
		name   string
		a, b   []api.Asset
		places string
		size   int
		want   api.Errno
	}{
		{"nothing wrong", a, b, "df:1 gk:1", 1, api.OK},
		{"nothing wrong", a, b, "df:1 gk:1", 2, api.OK},
		{"the first team", assets("b gk 1,a gk 1"), assets("A gk 1"), "GK:1", 0, api.ErrOrder},
		{"the second team", assets("a gk 1"), assets("A gk 1"), "gk:13", 0, api.ErrName},
		{"places", assets("a gk 1"), assets("a gk 1"), "GK:1", 0, api.ErrName},
		{"in both teams", a, a, "gk:1", 0, api.ErrTwice},
		{"no size", append(a, further), b, "gk:1", 0, api.ErrArg},
		{"a size below 0", append(a, further), b, "gk:1", math.MinInt, api.ErrArg},
		{"too great a size", append(a, further), b, "gk:1", 3, api.ErrArg},
		{"far too great a size", append(a, further), b, "gk:1", math.MaxInt, api.ErrArg},
		{"the first team is too large", append(a, further), b, "gk:1", 1, api.ErrLarge},
		{"the second team is too large", a, append(b, further), "gk:1", 2, api.ErrLarge},
		{"too large, and nobody to trade with", append(a, further), nil, "gk:1", 2, api.ErrLarge},
		{"both are far too large", manyAssets(api.MaxAssets + 1), nil, "gk:1", 2, api.ErrLarge},
	} {
		give, take, there, e := BestSwap(x.a, x.b, places(x.places), x.size)
		equal(t, x.name, e, x.want)
		equal(t, x.name, there, e == api.OK)
		equal(t, x.name, len(give) > 0, e == api.OK)
		equal(t, x.name, len(take) > 0, e == api.OK)
	}
}

// trade is an offer of a plain model.
type trade struct {
	give, take []string
	own, other int
}

// plainSwap makes the teams anew.
func plainSwap(a, b []api.Asset, p []api.Place, give, take []string) trade {
	var own, other []api.Asset
	for _, x := range slices.Concat(a, b) {
		isOwn := slices.Contains(take, x.Player)
		for _, y := range a {
			isOwn = isOwn || y == x && !slices.Contains(give, x.Player)
		}
		if isOwn {
			own = append(own, x)
		} else {
			other = append(other, x)
		}
	}
	more := func(now, before []api.Asset) int {
		slices.SortFunc(now, func(x, y api.Asset) int { return strings.Compare(x.Player, y.Player) })
		sum, _ := plainFielded(now, p)
		was, _ := plainFielded(before, p)
		return sum - was
	}
	return trade{give, take, more(own, a), more(other, b)}
}

// plainParts returns all parts of a team with at most so many players, but at least one.
func plainParts(team []api.Asset, size int) [][]string {
	var l [][]string
	for set := range 1 << len(team) {
		var part []string
		for i, x := range team {
			if set>>i&1 == 1 {
				part = append(part, x.Player)
			}
		}
		if n := bits.OnesCount(uint(set)); 1 <= n && n <= size {
			l = append(l, part)
		}
	}
	return l
}

// compareTrades compares two offers as P8.4 says, the better one first.
func compareTrades(x, y trade) int {
	return cmp.Or(
		cmp.Compare(min(y.own, y.other), min(x.own, x.other)),
		cmp.Compare(y.own+y.other, x.own+x.other),
		cmp.Compare(len(x.give)+len(x.take), len(y.give)+len(y.take)),
		slices.Compare(x.give, y.give),
		slices.Compare(x.take, y.take))
}

// P8.4: Swap and BestSwap as in a plain model that sorts all offers.
func TestSwapsPlainly(t *testing.T) {
	random := rand.New(rand.NewPCG(84, 1))
	for range 400 {
		a, b, p, size := anyAssets(random, "a", 5), anyAssets(random, "b", 5), anyPlaces(random), 1+random.IntN(2)
		if random.IntN(4) > 0 {
			// There is more to trade with if all are worth something.
			p = places("df:1 gk:1 mf:2 st:2")
			for i := range a {
				a[i].Value = 1 + random.IntN(6)
			}
			for i := range b {
				b[i].Value = 1 + random.IntN(6)
			}
		}
		if random.IntN(2) == 0 {
			// Names of both teams stand between each other.
			for i := range a {
				a[i].Player = string(rune('a'+i)) + "x"
			}
			for i := range b {
				b[i].Player = string(rune('a'+i)) + "y"
			}
		}
		var good []trade
		for _, give := range plainParts(a, size) {
			for _, take := range plainParts(b, size) {
				x := plainSwap(a, b, p, give, take)
				own, other, e := Swap(a, b, p, give, take)
				equal(t, "Swap", e, api.OK)
				equal(t, "Swap", own, x.own)
				equal(t, "Swap", other, x.other)
				if x.own >= 1 && x.other >= 1 {
					good = append(good, x)
				}
			}
		}
		slices.SortFunc(good, compareTrades)
		give, take, there, e := BestSwap(a, b, p, size)
		equal(t, "BestSwap", e, api.OK)
		equal(t, "BestSwap", there, len(good) > 0)
		if there && len(good) > 0 {
			list(t, "BestSwap", give, good[0].give)
			list(t, "BestSwap", take, good[0].take)
		}
	}
}

// P8.4: teams of as many as there can be.
func TestBestSwapOfAll(t *testing.T) {
	random := rand.New(rand.NewPCG(84, 2))
	for range 5 {
		a, b := manyAssets(20), manyAssets(20)
		for i := range a {
			position := func() string { return string(rune('a' + random.IntN(10))) }
			a[i] = api.Asset{Player: "m" + key(i)[1:], Position: position(), Value: random.IntN(100)}
			b[i] = api.Asset{Player: "n" + key(i)[1:], Position: position(), Value: random.IntN(100)}
		}
		p := places("a:1 b:1 c:2 d:1 e:2 f:1 g:1 h:1 i:12 j:0")
		give, take, there, e := BestSwap(a, b, p, 2)
		equal(t, "BestSwap", e, api.OK)
		equal(t, "BestSwap", there, true)
		own, other, e := Swap(a, b, p, give, take)
		equal(t, "Swap", e, api.OK)
		best := trade{give, take, own, other}
		for range 2_000 {
			some := func(l []api.Asset) []string {
				i := random.IntN(19)
				return []string{l[i].Player, l[i+1+random.IntN(19-i)].Player}[:1+random.IntN(2)]
			}
			x := trade{give: some(a), take: some(b)}
			x.own, x.other, e = Swap(a, b, p, x.give, x.take)
			equal(t, "Swap", e, api.OK)
			if compareTrades(x, best) < 0 {
				t.Errorf("BestSwap: %v is better than %v", x, best)
			}
		}
	}
}
