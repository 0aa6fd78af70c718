package draft

import (
	"math"
	"math/rand/v2"
	"slices"
	"strconv"
	"strings"
	"testing"

	"benchwarmer/api"
)

// P4.4: CheckHall.
func TestCheckHall(t *testing.T) {
	for _, x := range []struct {
		name  string
		spoil func(h *api.Hall)
		want  api.Errno
	}{
		{"ordinary", func(h *api.Hall) {}, api.OK},
		{"most", func(h *api.Hall) { *h = wideHall() }, api.OK},
		{"most places", func(h *api.Hall) { h.Places, h.Budget, h.Players = api.MaxTurns, api.MaxTurns, keys(2*api.MaxTurns) }, api.OK},
		{"just enough budget", func(h *api.Hall) { h.Budget = 3 }, api.OK},
		{"1 of all", func(h *api.Hall) { h.Teams, h.Players, h.Budget, h.Places = h.Teams[:1], players(1), 1, 1 }, api.OK},
		{"teams in any order", func(h *api.Hall) { h.Teams = strings.Fields("b a") }, api.OK},
		{"nothing", func(h *api.Hall) { *h = api.Hall{} }, api.ErrNone},
		{"no teams", func(h *api.Hall) { h.Teams, h.Players = nil, []string{""} }, api.ErrNone},
		{"too many teams", func(h *api.Hall) { h.Teams, h.Players = make([]string, api.MaxTeams+1), []string{""} }, api.ErrLarge},
		{"team no key", func(h *api.Hall) { h.Teams[1], h.Players = "B", strings.Fields("b a") }, api.ErrName},
		{"team twice", func(h *api.Hall) { h.Teams[1], h.Players = "a", []string{""} }, api.ErrTwice},
		{"too many players", func(h *api.Hall) { h.Players, h.Budget = make([]string, api.MaxPlayers+1), 0 }, api.ErrLarge},
		{"player no key", func(h *api.Hall) { h.Players[1], h.Budget = "A", 0 }, api.ErrName},
		{"player twice", func(h *api.Hall) { h.Players[1], h.Budget = "p1", 0 }, api.ErrOrder},
		{"players fall", func(h *api.Hall) { h.Players[1], h.Places = "a", 0 }, api.ErrOrder},
		{"no budget", func(h *api.Hall) { h.Budget, h.Players = 0, nil }, api.ErrArg},
		{"too large a budget", func(h *api.Hall) { h.Budget = api.MaxBudget + 1 }, api.ErrArg},
		{"no places", func(h *api.Hall) { h.Places = 0 }, api.ErrArg},
		{"too many places", func(h *api.Hall) { h.Places = api.MaxTurns + 1 }, api.ErrArg},
		{"least ints", func(h *api.Hall) { h.Budget, h.Places = math.MinInt, math.MinInt }, api.ErrArg},
		{"greatest ints", func(h *api.Hall) { h.Budget, h.Places = math.MaxInt, math.MaxInt }, api.ErrArg},
		{"too few players", func(h *api.Hall) { h.Players = players(5) }, api.ErrFull},
		{"no players", func(h *api.Hall) { h.Players = nil }, api.ErrFull},
		{"too small a budget", func(h *api.Hall) { h.Budget = 2 }, api.ErrFull},
	} {
		h := hall()
		x.spoil(&h)
		equal(t, x.name, CheckHall(h), x.want)
	}
}

// P4.4: CheckSales.
func TestCheckSales(t *testing.T) {
	for _, x := range []struct {
		name  string
		sales []string
		want  api.Errno
	}{
		{"none", nil, api.OK},
		{"ordinary", []string{"p3 a 6", "p1 b 1", "p6 a 3", "p2 a 1"}, api.OK},
		{"all places", []string{"p1 a 8", "p2 b 1", "p3 a 1", "p4 b 8", "p5 a 1", "p6 b 1"}, api.OK},
		{"no player", []string{"p0 c 0"}, api.ErrNone},
		{"no team", []string{"p1 c 0"}, api.ErrNone},
		{"no key", []string{"P1 a 1"}, api.ErrNone},
		{"sold before", []string{"p1 a 1", "p1 b 0"}, api.ErrTwice},
		{"by the same", []string{"p1 a 1", "p2 a 1", "p3 a 1", "p1 a 1"}, api.ErrTwice},
		{"for nothing", []string{"p1 a 0"}, api.ErrArg},
		{"for less", []string{"p1 a -1"}, api.ErrArg},
		{"for nothing, without places", []string{"p1 a 1", "p2 a 1", "p3 a 1", "p4 a 0"}, api.ErrArg},
		{"without places", []string{"p1 a 1", "p2 a 1", "p3 a 1", "p4 a 1"}, api.ErrFull},
		{"without places, too much", []string{"p1 a 1", "p2 a 1", "p3 a 1", "p4 a 100"}, api.ErrFull},
		{"too much at first", []string{"p1 a 9"}, api.ErrState},
		{"too much then", []string{"p1 a 6", "p2 a 4"}, api.ErrState},
		{"too much at last", []string{"p1 a 6", "p2 a 2", "p3 a 3"}, api.ErrState},
		{"first one first", []string{"p1 a 9", "p0 a 1"}, api.ErrState},
	} {
		equal(t, x.name, CheckSales(hall(), sales(x.sales...)), x.want)
	}
	for price, want := range map[int]api.Errno{math.MinInt: api.ErrArg, math.MaxInt: api.ErrState} {
		equal(t, "Price", CheckSales(hall(), []api.Sale{{Player: "p1", Team: "a", Price: price}}), want)
	}
	equal(t, "too many", CheckSales(hall(), make([]api.Sale, api.MaxSales+1)), api.ErrLarge)
	equal(t, "not too many, but wrong", CheckSales(hall(), make([]api.Sale, api.MaxSales)), api.ErrNone)
	equal(t, "hall first", CheckSales(api.Hall{}, make([]api.Sale, api.MaxSales+1)), api.ErrNone)
}

// P4.4: MostBid and Money.
func TestMostBid(t *testing.T) {
	all := sales("p1 a 6", "p2 b 1", "p3 a 3", "p4 a 1", "p5 b 8", "p6 b 1")
	for many, want := range []struct{ a, b, moneyA, moneyB int }{
		{8, 8, 10, 10}, {3, 8, 4, 10}, {3, 8, 4, 9}, {1, 8, 1, 9}, {0, 8, 0, 9}, {0, 1, 0, 1}, {0, 0, 0, 0},
	} {
		for team, most := range map[string]int{"a": want.a, "b": want.b} {
			got, e := MostBid(hall(), all[:many], team)
			equal(t, "MostBid", e, api.OK)
			equal(t, "MostBid of "+team, got, most)
		}
		money, e := Money(hall(), all[:many])
		equal(t, "Money", e, api.OK)
		list(t, "Money", money, pairs("a "+strconv.Itoa(want.moneyA), "b "+strconv.Itoa(want.moneyB)))
	}
	h := hall()
	h.Teams = strings.Fields("b a")
	money, _ := Money(h, all[:1])
	list(t, "in the order of the hall", money, pairs("b 10", "a 4"))
	most, e := MostBid(h, sales("p1 a 1", "p2 a 1", "p3 a 1"), "a")
	equal(t, "without places", e, api.OK)
	equal(t, "without places", most, 0)
	for _, team := range []string{"c", "", "A", "p1"} {
		most, e := MostBid(h, all, team)
		equal(t, "no team", e, api.ErrNone)
		equal(t, "no team", most, 0)
	}
}

// P4.4: Sell.
func TestSell(t *testing.T) {
	h := api.Hall{Teams: strings.Fields("c a b d"), Players: keys(20), Budget: 20, Places: 3}
	// The most of c is 1, that of a 13, that of b 18, that of d 0.
	l := sales(key(0)+" c 18", key(1)+" a 6", key(2)+" d 1", key(3)+" d 1", key(4)+" c 1", key(5)+" d 18")
	for _, x := range []struct{ limits, want string }{
		{"", "-"},
		{"a 5", "a 1"},
		{"a 1", "a 1"},
		{"a 0", "-"},
		{"a -3,b -999999999", "-"},
		{"d 18", "-"},
		{"d 18,c 7,a 0", "c 1"},
		{"a 5,b 3", "a 4"},
		{"b 3,a 5", "a 4"},
		{"a 5,b 4", "a 5"},
		{"a 5,b 5", "a 5"},
		{"b 5,a 5", "a 5"},
		{"b 999999999,a 999999999", "b 14"},
		{"b 13,a 999999999", "a 13"},
		{"b 14,a 999999999", "b 14"},
		{"a 9,b 2,c 9,d 9", "a 3"},
		{"a 9,b 0,c 9", "a 2"},
		{"a 1,b 1,c 9", "c 1"},
		{"a 2,b 7,c 9", "b 3"},
	} {
		var limits []api.Pair
		if x.limits != "" {
			limits = pairs(strings.Split(x.limits, ",")...)
		}
		sale, sold, e := Sell(h, l, key(9), limits)
		equal(t, x.limits, e, api.OK)
		equal(t, x.limits, sold, x.want != "-")
		if x.want == "-" {
			equal(t, x.limits, sale, api.Sale{})
			continue
		}
		equal(t, x.limits, sale, sales(key(9) + " " + x.want)[0])
		equal(t, x.limits, CheckSales(h, append(l, sale)), api.OK)
	}
}

// P4.4: of many teams that would pay the same the first one in the order of the hall buys.
func TestSellEqual(t *testing.T) {
	h := wideHall()
	slices.Reverse(h.Teams)
	for most := 1; most <= 6; most++ {
		var limits []api.Pair
		var first string
		for i, team := range h.Teams {
			limit := 1 + i*7%most
			limits = append(limits, api.Pair{Name: team, Value: strconv.Itoa(limit)})
			if first == "" && limit == most {
				first = team
			}
		}
		slices.Reverse(limits)
		sale, _, e := Sell(h, nil, key(0), limits)
		equal(t, "equal limits", e, api.OK)
		equal(t, "equal limits", sale, api.Sale{Player: key(0), Team: first, Price: most})
	}
}

// P4.4: errors of Sell.
func TestSellErrors(t *testing.T) {
	l := sales("p1 a 6")
	for _, x := range []struct {
		player string
		limits []api.Pair
		want   api.Errno
	}{
		{"p0", make([]api.Pair, api.MaxTeams+1), api.ErrNone},
		{"", nil, api.ErrNone},
		{"p1", make([]api.Pair, api.MaxTeams+1), api.ErrTwice},
		{"p2", make([]api.Pair, api.MaxTeams+1), api.ErrLarge},
		{"p2", make([]api.Pair, api.MaxTeams), api.ErrNone},
		{"p2", pairs("c x"), api.ErrNone},
		{"p2", pairs("b 1", "a 1", "b x"), api.ErrTwice},
		{"p2", pairs("b x", "b x"), api.ErrSyntax},
		{"p2", pairs("b 1", "a x", "c 1"), api.ErrSyntax},
		{"p2", pairs("b 1", "c x"), api.ErrNone},
	} {
		sale, is, e := Sell(hall(), l, x.player, x.limits)
		equal(t, x.player, e, x.want)
		equal(t, x.player, is, false)
		equal(t, x.player, sale, api.Sale{})
	}
	for _, word := range []string{"", "-", "-0", "01", "00", "+1", " 1", "1 ", "1.0", "1e3", "0x1", "1_0", "x", "１", "1000000000", "-1000000000", "000000001", strings.Repeat("9", 100)} {
		_, _, e := Sell(hall(), l, "p2", []api.Pair{{Name: "a", Value: word}})
		equal(t, word, e, api.ErrSyntax)
	}
	for _, word := range []string{"0", "-1", "1", "10", "999999999", "-999999999"} {
		_, is, e := Sell(hall(), l, "p2", []api.Pair{{Name: "a", Value: word}})
		equal(t, word, e, api.OK)
		equal(t, word, is, atoi(word) > 0)
	}
	_, _, e := Sell(api.Hall{}, nil, "", nil)
	equal(t, "hall first", e, api.ErrNone)
	_, _, e = Sell(hall(), sales("p1 a 9"), "p0", nil)
	equal(t, "then sales", e, api.ErrState)
}

// P4.4: what follows: no budget is overdrawn, and each team can still fill its places.
func TestAuctionPlainly(t *testing.T) {
	random := rand.New(rand.NewPCG(44, 1))
	for range 200 {
		h := api.Hall{Teams: strings.Fields("c a b")[:1+random.IntN(3)], Places: 1 + random.IntN(4)}
		h.Budget = h.Places + random.IntN(20)
		h.Players = keys(len(h.Teams)*h.Places + random.IntN(3))
		left, places := map[string]int{}, map[string]int{}
		for _, team := range h.Teams {
			left[team], places[team] = h.Budget, h.Places
		}
		var l []api.Sale
		for _, player := range h.Players {
			var limits []api.Pair
			for _, i := range random.Perm(len(h.Teams)) {
				if random.IntN(4) > 0 {
					limits = append(limits, api.Pair{Name: h.Teams[i], Value: strconv.Itoa(random.IntN(h.Budget+5) - 2)})
				}
			}
			most := func(team string) int {
				if places[team] == 0 {
					return 0
				}
				return left[team] - places[team] + 1
			}
			sale, is, e := Sell(h, l, player, limits)
			equal(t, "Sell", e, api.OK)
			want := bought(h, limits, most)
			equal(t, "sold", is, want.Team != "")
			if is {
				want.Player = player
				equal(t, "Sell", sale, want)
				l = append(l, sale)
				left[sale.Team] -= sale.Price
				places[sale.Team]--
			}
			equal(t, "CheckSales", CheckSales(h, l), api.OK)
			money, _ := Money(h, l)
			for _, x := range money {
				equal(t, "Money", atoi(x.Value), left[x.Name])
				equal(t, "places can be filled", left[x.Name] >= places[x.Name] && places[x.Name] >= 0, true)
				got, _ := MostBid(h, l, x.Name)
				equal(t, "MostBid", got, most(x.Name))
			}
		}
	}
}

// bought returns who buys, for how much: the price rises by 1 as long as several would pay it.
func bought(h api.Hall, limits []api.Pair, most func(team string) int) api.Sale {
	would := func(price int) []string {
		return slices.DeleteFunc(slices.Clone(h.Teams), func(team string) bool {
			i := slices.IndexFunc(limits, func(x api.Pair) bool { return x.Name == team })
			return i < 0 || atoi(limits[i].Value) < price || most(team) < price
		})
	}
	var sale api.Sale
	for price := 1; len(would(price)) > 0; price++ {
		sale = api.Sale{Team: would(price)[0], Price: price}
		if len(would(price)) == 1 {
			break
		}
	}
	return sale
}
