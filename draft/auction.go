package draft

import (
	"cmp"
	"slices"

	"benchwarmer/api"
	"benchwarmer/check"
	"benchwarmer/lines"
)

// limitDigits is how many digits a limit can have.
const limitDigits = 9

// CheckHall says what is wrong with a hall.
func CheckHall(h api.Hall) api.Errno {
	return cmp.Or(
		wrongTeams(h.Teams),
		check.Rising(h.Players, api.MaxPlayers),
		check.Unless(check.Between(h.Budget, 1, api.MaxBudget) && check.Between(h.Places, 1, api.MaxTurns), api.ErrArg),
		check.Unless(len(h.Players) >= len(h.Teams)*h.Places && h.Budget >= h.Places, api.ErrFull))
}

// CheckSales says what is wrong with sales.
func CheckSales(h api.Hall, l []api.Sale) api.Errno {
	if e := CheckHall(h); e != api.OK {
		return e
	}
	return check.Each(len(l), api.MaxSales, func(i int) api.Errno {
		x := l[i]
		_, places := purse(h, l[:i], x.Team)
		return cmp.Or(
			check.Unless(among(h.Players, x.Player) && slices.Contains(h.Teams, x.Team), api.ErrNone),
			check.Unless(!sold(l[:i], x.Player), api.ErrTwice),
			check.Unless(x.Price >= 1, api.ErrArg),
			check.Unless(places > 0, api.ErrFull),
			check.Unless(x.Price <= mostBid(h, l[:i], x.Team), api.ErrState))
	})
}

// MostBid returns the most that a team can bid.
func MostBid(h api.Hall, l []api.Sale, team string) (int, api.Errno) {
	e := cmp.Or(CheckSales(h, l), check.Unless(slices.Contains(h.Teams, team), api.ErrNone))
	if e != api.OK {
		return 0, e
	}
	return mostBid(h, l, team), api.OK
}

// Money returns what is left of each budget.
func Money(h api.Hall, l []api.Sale) ([]api.Pair, api.Errno) {
	if e := CheckSales(h, l); e != api.OK {
		return nil, e
	}
	return numbered(h.Teams, func(team string) int {
		money, _ := purse(h, l, team)
		return money
	}), api.OK
}

// Sell sells a player.
func Sell(h api.Hall, l []api.Sale, player string, limits []api.Pair) (api.Sale, bool, api.Errno) {
	e := cmp.Or(
		CheckSales(h, l),
		check.Unless(among(h.Players, player), api.ErrNone),
		check.Unless(!sold(l, player), api.ErrTwice),
		wrongLimits(h, limits))
	if e != api.OK {
		return api.Sale{}, false, e
	}
	offers := offered(h, l, player, limits)
	if len(offers) == 0 {
		return api.Sale{}, false, api.OK
	}
	sale := offers[0]
	sale.Price = 1
	if len(offers) > 1 {
		sale.Price = min(offers[1].Price+1, offers[0].Price)
	}
	return sale, true, api.OK
}

// wrongLimits says what is wrong with what teams would pay.
func wrongLimits(h api.Hall, limits []api.Pair) api.Errno {
	return check.Each(len(limits), api.MaxTeams, func(i int) api.Errno {
		x := limits[i]
		_, is := lines.Number(x.Value, limitDigits)
		earlier := slices.ContainsFunc(limits[:i], func(y api.Pair) bool { return y.Name == x.Name })
		return cmp.Or(
			check.Unless(slices.Contains(h.Teams, x.Name), api.ErrNone),
			check.Unless(!earlier, api.ErrTwice),
			check.Unless(is, api.ErrSyntax))
	})
}

// offered returns for each team that would and can buy a player the sale at its limit: the greatest one first, equal ones in the order of the hall.
func offered(h api.Hall, l []api.Sale, player string, limits []api.Pair) []api.Sale {
	var offers []api.Sale
	for _, team := range h.Teams {
		number := slices.IndexFunc(limits, func(x api.Pair) bool { return x.Name == team })
		if number < 0 {
			continue
		}
		limit, _ := lines.Number(limits[number].Value, limitDigits)
		if price := min(limit, mostBid(h, l, team)); price >= 1 {
			offers = append(offers, api.Sale{Player: player, Team: team, Price: price})
		}
	}
	slices.SortStableFunc(offers, func(a, b api.Sale) int { return cmp.Compare(b.Price, a.Price) })
	return offers
}

func sold(l []api.Sale, player string) bool {
	return slices.ContainsFunc(l, func(x api.Sale) bool { return x.Player == player })
}

// purse returns what is left of the budget of a team, and how many places it has still to fill.
func purse(h api.Hall, l []api.Sale, team string) (money, places int) {
	money, places = h.Budget, h.Places
	for _, x := range l {
		if x.Team == team {
			money -= x.Price
			places--
		}
	}
	return money, places
}

// mostBid returns the most that a team can bid: for each of its other places it keeps 1.
func mostBid(h api.Hall, l []api.Sale, team string) int {
	money, places := purse(h, l, team)
	if places == 0 {
		return 0
	}
	return money - (places - 1)
}
