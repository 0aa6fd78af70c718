package draft

import (
	"cmp"
	"slices"

	"benchwarmer/api"
	"benchwarmer/check"
)

// CheckWishes says what is wrong with lists of wishes.
func CheckWishes(r api.Room, w []api.Wishes) api.Errno {
	if e := CheckRoom(r); e != api.OK {
		return e
	}
	return check.Each(len(w), api.MaxTeams, func(i int) api.Errno {
		x := w[i]
		earlier := slices.ContainsFunc(w[:i], func(y api.Wishes) bool { return y.Team == x.Team })
		return cmp.Or(
			check.Unless(slices.Contains(r.Teams, x.Team), api.ErrNone),
			check.Unless(!earlier, api.ErrTwice),
			check.Each(len(x.Players), api.MaxWishes, func(j int) api.Errno {
				return cmp.Or(
					check.Unless(among(r.Players, x.Players[j]), api.ErrNone),
					check.Unless(!slices.Contains(x.Players[:j], x.Players[j]), api.ErrTwice))
			}))
	})
}

// Auto returns the picks with those that were made as time was up.
func Auto(r api.Room, k []api.Keep, s []api.Swap, l []api.Pick, w []api.Wishes, at int) ([]api.Pick, api.Errno) {
	b, e := follow(r, k, s, l)
	e = cmp.Or(e, CheckWishes(r, w), check.Unless(check.Moment(at), api.ErrArg))
	if e != api.OK {
		return nil, e
	}
	b.goOn(w, func() (int, bool) {
		due, there := b.due()
		return due, there && due <= at
	})
	return b.made, api.OK
}

// Finish returns the picks with all others.
func Finish(r api.Room, k []api.Keep, s []api.Swap, l []api.Pick, w []api.Wishes) ([]api.Pick, api.Errno) {
	b, e := follow(r, k, s, l)
	e = cmp.Or(e, CheckWishes(r, w))
	if e != api.OK {
		return nil, e
	}
	b.goOn(w, func() (int, bool) { return b.last(), true })
	return b.made, api.OK
}

// Regret returns how many picks of each team were another one than its wish.
func Regret(r api.Room, k []api.Keep, s []api.Swap, l []api.Pick, w []api.Wishes) ([]api.Pair, api.Errno) {
	e := cmp.Or(CheckPicks(r, k, s, l), CheckWishes(r, w))
	if e != api.OK {
		return nil, e
	}
	b, _ := begin(r, k, s)
	var others []string // the team of each pick that was not its wish
	for _, x := range l {
		if x.Player != b.wish(w, x.Team) {
			others = append(others, x.Team)
		}
		b.add(x)
	}
	return numbered(r.Teams, func(team string) int {
		many := 0
		for _, other := range others {
			if other == team {
				many++
			}
		}
		return many
	}), api.OK
}

// goOn makes wishes the next picks, as long as there is an open one, and a moment for it; when returns this moment.
func (b *board) goOn(w []api.Wishes, when func() (int, bool)) {
	for {
		next, open := b.next()
		at, now := when()
		if !open || !now {
			return
		}
		b.add(api.Pick{No: next.No, Team: next.Team, Player: b.wish(w, next.Team), At: at, Auto: true})
	}
}

// wish returns the wish of a team. Somebody must be left, as is so before each pick: there are enough players for all turns.
func (b *board) wish(w []api.Wishes, team string) string {
	for _, x := range w {
		if x.Team != team {
			continue
		}
		for _, player := range x.Players {
			if among(b.left, player) {
				return player
			}
		}
	}
	return b.left[0]
}
