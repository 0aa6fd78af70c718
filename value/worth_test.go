package value

import (
	"math"
	"math/big"
	"math/rand/v2"
	"slices"
	"strconv"
	"strings"
	"testing"

	"benchwarmer/api"
)

const four = "a gk 10,b gk 8,c gk 5,d gk 3"

// P8.1: Levels.
func TestLevels(t *testing.T) {
	for _, x := range []struct {
		name, assets, places string
		teams                int
		want                 string
	}{
		{"the document's", four, "gk:1", 2, "gk:5"},
		{"one team", four, "gk:1", 1, "gk:8"},
		{"the last one", four, "gk:1", 3, "gk:3"},
		{"not as many", four, "gk:1", 4, "gk:3"},
		{"far from as many", four, "gk:12", 20, "gk:3"},
		{"many times teams", four, "gk:2", 1, "gk:5"},
		{"nobody is fielded", four, "gk:0", 20, "gk:10"},
		{"nobody there", four, "df:1", 1, "df:0"},
		{"nobody at all", "", "df:1 gk:1", 1, "df:0 gk:0"},
		{"no places", four, "", 1, ""},
		{"below 0", "a gk -1,b gk -5", "gk:1", 1, "gk:-5"},
		{"equal ones", "a gk 7,b gk 7,c gk 7,d gk 1", "gk:1", 2, "gk:7"},
		{"by value, not by name", "a gk 1,b gk 9,c gk 5", "gk:1", 1, "gk:5"},
		{"each position for itself", "a df 4,b gk 9,c df 6,d gk 2,e st 7", "df:1 gk:0 mf:3", 1, "df:4 gk:9 mf:0"},
		{"a position that is as a player", "gk gk 5,st gk 2", "gk:1 st:1", 1, "gk:2 st:0"},
	} {
		l, e := Levels(assets(x.assets), places(x.places), x.teams)
		equal(t, x.name, e, api.OK)
		list(t, x.name, l, pairs(x.want))
	}
	l, e := Levels(manyAssets(api.MaxAssets), places("gk:12"), api.MaxTeams)
	equal(t, "many", e, api.OK)
	list(t, "many", l, pairs("gk:59"))
}

// overs makes worths of words PLAYER:WORTH:RANK.
func overs(all string) []api.Over {
	var l []api.Over
	for _, word := range strings.Fields(all) {
		w := strings.Split(word, ":")
		l = append(l, api.Over{Player: w[0], Worth: atoi(w[1]), Rank: atoi(w[2])})
	}
	return l
}

// P8.1: Worths.
func TestWorths(t *testing.T) {
	for _, x := range []struct {
		name, assets, places string
		teams                int
		want                 string
	}{
		{"the document's", four, "gk:1", 2, "a:5:1 b:3:2 c:0:3 d:-2:4"},
		{"one team", four, "gk:1", 1, "a:2:1 b:0:2 c:-3:3 d:-5:4"},
		{"nobody is fielded", four, "gk:0", 1, "a:0:1 b:-2:2 c:-5:3 d:-7:4"},
		{"no place", four, "df:1", 1, ""},
		{"no places", four, "", 1, ""},
		{"no assets", "", "gk:1", 1, ""},
		{"the level of nobody else", "a gk 10", "gk:1", 1, "a:0:1"},
		{"equal ones", "a gk 1,b gk 5,c gk 5,d gk 9", "gk:3", 1, "d:8:1 b:4:2 c:4:2 a:0:4"},
		{"positions together", "a df 4,b gk 9,c df 6,d gk 2,e st 7", "df:1 gk:1", 1, "b:7:1 c:2:2 a:0:3 d:0:3"},
		{"less of a greater value", "a gk 90,b gk 80,c df 20,d df 1", "df:1 gk:1", 1, "c:19:1 a:10:2 b:0:3 d:0:3"},
		{"equal ones of two positions", "a df 5,b gk 15,c df 3,d gk 13", "df:1 gk:1", 1, "a:2:1 b:2:1 c:0:3 d:0:3"},
		{"below 0", "a gk -1,b gk -5", "gk:1", 1, "a:4:1 b:0:2"},
		{"the greatest", "a gk 1000000,b gk -1000000", "gk:1", 20, "a:2000000:1 b:0:2"},
	} {
		l, e := Worths(assets(x.assets), places(x.places), x.teams)
		equal(t, x.name, e, api.OK)
		list(t, x.name, l, overs(x.want))
	}
}

// P8.1: Prices.
func TestPrices(t *testing.T) {
	for _, x := range []struct {
		name, assets, places string
		teams, budget        int
		want                 string
	}{
		{"the document's", four, "gk:1", 2, 10, "a:12 b:8"},
		{"just 1 each", four, "gk:1", 2, 1, "a:1 b:1"},
		{"1 more", "a gk 10,b gk 8,c gk 5", "gk:2", 1, 3, "a:2 b:1"},
		{"nothing over", "a gk 10,b gk 8,c gk 5", "gk:2", 1, 10, "a:6 b:4"},
		{"2 more than whole shares", "a gk 10,b gk 8,c gk 5", "gk:2", 1, 12, "a:7 b:5"},
		{"one only", "a gk 9,b gk 2", "gk:1", 1, 100, "a:100"},
		{"nobody above 0", "a gk 9", "gk:1", 20, 100, ""},
		{"nobody above 0, nothing there", "a gk 9", "gk:1", 20, 0, ""},
		{"no assets", "", "gk:1", 1, 1000000, ""},
		{"no places", four, "", 1, 1000000, ""},
		{"equal remainders go by the order of worths", "a gk 1,b gk 3,c gk 3,d gk 3", "gk:3", 1, 8, "b:3 c:3 d:2"},
		{"the greatest remainder, not the greatest worth", "a gk 0,b gk 5,c gk 3,d gk 4", "gk:3", 1, 8, "b:3 d:3 c:2"},
		{"a small one gets what is over", "a gk 0,b gk 1,c gk 9", "gk:2", 1, 9, "c:7 b:2"},
		{"equal remainders of unequal worths", "a gk 0,b gk 3,c gk 1", "gk:2", 1, 4, "b:3 c:1"},
		{"the greatest", "a gk 1000000,b gk -999999,c gk -1000000", "gk:2", 1, 1000000, "a:999999 b:1"},
		{"all teams", "a gk 1000000,b gk -1000000", "gk:1", 20, 1000000, "a:20000000"},
	} {
		l, e := Prices(assets(x.assets), places(x.places), x.teams, x.budget)
		equal(t, x.name, e, api.OK)
		list(t, x.name, l, pairs(x.want))
	}
}

// P8.1: errors of Levels, Worths and Prices.
func TestWorthErrors(t *testing.T) {
	for _, x := range []struct {
		name, assets, places string
		teams, budget        int
		want                 api.Errno // of Levels and Worths
		prices               api.Errno
	}{
		{"nothing", "", "", 1, 0, api.OK, api.OK},
		{"assets", "a gk 1,a gk 1", "GK:1", 0, -1, api.ErrOrder, api.ErrOrder},
		{"places", four, "GK:1", 0, -1, api.ErrName, api.ErrName},
		{"no team", four, "gk:1", 0, 1, api.ErrArg, api.ErrArg},
		{"less than none", four, "gk:1", -1, 1, api.ErrArg, api.ErrArg},
		{"the least", four, "gk:1", math.MinInt, 1, api.ErrArg, api.ErrArg},
		{"too many teams", four, "gk:1", api.MaxTeams + 1, 1, api.ErrArg, api.ErrArg},
		{"far too many teams", four, "gk:1", math.MaxInt, 1, api.ErrArg, api.ErrArg},
		{"a budget below 0", four, "gk:1", 2, -1, api.OK, api.ErrArg},
		{"a budget far below 0", four, "gk:1", 2, math.MinInt, api.OK, api.ErrArg},
		{"too great a budget", four, "gk:1", 2, api.MaxValue + 1, api.OK, api.ErrArg},
		{"far too great a budget", four, "gk:1", 2, math.MaxInt, api.OK, api.ErrArg},
		{"no budget", four, "gk:1", 2, 0, api.OK, api.ErrFull},
		{"1 for three", four, "gk:3", 1, 1, api.OK, api.ErrFull},
		{"2 for three", four, "gk:3", 1, 2, api.OK, api.ErrFull},
		{"3 for three", four, "gk:3", 1, 3, api.OK, api.OK},
	} {
		_, e := Levels(assets(x.assets), places(x.places), x.teams)
		equal(t, x.name, e, x.want)
		_, e = Worths(assets(x.assets), places(x.places), x.teams)
		equal(t, x.name, e, x.want)
		l, e := Prices(assets(x.assets), places(x.places), x.teams, x.budget)
		equal(t, x.name, e, x.prices)
		equal(t, x.name, len(l) > 0, e == api.OK && x.assets != "")
	}
}

// plainLevel takes the best one of a position away, once for each who is fielded.
func plainLevel(l []api.Asset, x api.Place, teams int) int {
	var values []int
	for _, a := range l {
		if a.Position == x.Position {
			values = append(values, a.Value)
		}
	}
	if len(values) == 0 {
		return 0
	}
	for range x.Many * teams {
		if len(values) > 1 {
			best := slices.Index(values, slices.Max(values))
			values = slices.Delete(values, best, best+1)
		}
	}
	return slices.Max(values)
}

// P8.1: levels and worths as in a plain model.
func TestWorthsPlainly(t *testing.T) {
	random := rand.New(rand.NewPCG(81, 1))
	for range 2_000 {
		l, p, teams := anyAssets(random, "a", 26), anyPlaces(random), 1+random.IntN(3)
		levels, e := Levels(l, p, teams)
		equal(t, "Levels", e, api.OK)
		var want []api.Pair
		worth := map[string]int{}
		for _, x := range p {
			level := plainLevel(l, x, teams)
			want = append(want, api.Pair{Name: x.Position, Value: strconv.Itoa(level)})
			for _, a := range l {
				if a.Position == x.Position {
					worth[a.Player] = a.Value - level
				}
			}
		}
		list(t, "Levels", levels, want)
		w, e := Worths(l, p, teams)
		equal(t, "Worths", e, api.OK)
		equal(t, "Worths", len(w), len(worth))
		for i, x := range w {
			equal(t, "Worths", x.Worth, worth[x.Player])
			greater := 0
			for _, n := range worth {
				if n > x.Worth {
					greater++
				}
			}
			equal(t, "Worths", x.Rank, 1+greater)
			if i > 0 && (w[i-1].Worth < x.Worth || w[i-1].Worth == x.Worth && w[i-1].Player >= x.Player) {
				t.Errorf("%v: %s stands behind %s", l, x.Player, w[i-1].Player)
			}
		}
	}
}

// P8.1: prices as in a plain model: what is over goes 1 by 1 to the one who lacks most to its share.
func TestPricesPlainly(t *testing.T) {
	random := rand.New(rand.NewPCG(81, 2))
	for range 2_000 {
		l, p, teams, budget := anyAssets(random, "a", 26), anyPlaces(random), 1+random.IntN(3), random.IntN(50)
		w, _ := Worths(l, p, teams)
		got, e := Prices(l, p, teams, budget)
		all, those := 0, 0
		for _, x := range w {
			if x.Worth > 0 {
				all += x.Worth
				those++
			}
		}
		left := teams*budget - those
		if those > 0 && left < 0 {
			equal(t, "Prices", e, api.ErrFull)
			continue
		}
		equal(t, "Prices", e, api.OK)
		equal(t, "Prices", len(got), those)
		prices := make([]int, those)
		over := left
		for i := range prices {
			prices[i] = 1 + left*w[i].Worth/all
			over -= prices[i] - 1
		}
		for ; over > 0 && those > 0; over-- {
			lacks := func(i int) *big.Rat {
				return new(big.Rat).Sub(big.NewRat(int64(left*w[i].Worth), int64(all)), big.NewRat(int64(prices[i]-1), 1))
			}
			most := 0
			for i := range prices {
				if lacks(i).Cmp(lacks(most)) > 0 {
					most = i
				}
			}
			prices[most]++
		}
		for i, n := range prices {
			equal(t, "Prices", got[i], api.Pair{Name: w[i].Player, Value: strconv.Itoa(n)})
		}
	}
}

// P8.1: with as many assets and as great worths as there can be nothing overflows, and the prices are all there is.
func TestGreatPrices(t *testing.T) {
	l := manyAssets(api.MaxAssets)
	for i := range l {
		l[i].Value = api.MaxValue - i
		if i >= 240 {
			l[i].Value = -api.MaxValue
		}
	}
	prices, e := Prices(l, places("gk:12"), api.MaxTeams, api.MaxValue)
	equal(t, "Prices", e, api.OK)
	equal(t, "Prices", len(prices), 240)
	sum := 0
	for i, x := range prices {
		equal(t, "Prices", x.Name, key(i))
		sum += atoi(x.Value)
	}
	equal(t, "all prices", sum, api.MaxTeams*api.MaxValue)
}
