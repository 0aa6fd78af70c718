package draft

import (
	"cmp"
	"slices"

	"benchwarmer/api"
	"benchwarmer/check"
)

// CheckPicks says what is wrong with picks.
func CheckPicks(r api.Room, k []api.Keep, s []api.Swap, l []api.Pick) api.Errno {
	_, e := follow(r, k, s, l)
	return e
}

// Next returns the next open pick.
func Next(r api.Room, k []api.Keep, s []api.Swap, l []api.Pick) (api.Pick, bool, api.Errno) {
	b, e := follow(r, k, s, l)
	if e != api.OK {
		return api.Pick{}, false, e
	}
	next, open := b.next()
	return next, open, api.OK
}

// Due returns when the time of the next pick is up.
func Due(r api.Room, k []api.Keep, s []api.Swap, l []api.Pick) (int, bool, api.Errno) {
	b, e := follow(r, k, s, l)
	if e != api.OK {
		return 0, false, e
	}
	at, due := b.due()
	return at, due, api.OK
}

// Left returns the players who are neither kept nor picked.
func Left(r api.Room, k []api.Keep, s []api.Swap, l []api.Pick) ([]string, api.Errno) {
	b, e := follow(r, k, s, l)
	if e != api.OK {
		return nil, e
	}
	return b.left, api.OK
}

// Teams returns the players of each team.
func Teams(r api.Room, k []api.Keep, s []api.Swap, l []api.Pick) ([]api.Wishes, api.Errno) {
	b, e := follow(r, k, s, l)
	if e != api.OK {
		return nil, e
	}
	picks := slices.Concat(b.kept, b.made)
	slices.SortFunc(picks, func(x, y api.Pick) int { return cmp.Compare(x.No, y.No) })
	var teams []api.Wishes
	for _, team := range r.Teams {
		has := api.Wishes{Team: team}
		for _, x := range picks {
			if x.Team == team {
				has.Players = append(has.Players, x.Player)
			}
		}
		teams = append(teams, has)
	}
	return teams, api.OK
}

// board is a draft as it goes on.
type board struct {
	room api.Room
	kept []api.Pick
	open []api.Pick // without those that are kept, as they are before the draft begins
	made []api.Pick // as many of open as were made, the first ones
	left []string   // the players who are neither kept nor picked, in order
}

// begin returns a draft before its first pick, and what is wrong with it.
func begin(r api.Room, k []api.Keep, s []api.Swap) (*board, api.Errno) {
	picks, e := Open(r, k, s)
	if e != api.OK {
		return nil, e
	}
	b := &board{room: r, left: slices.Clone(r.Players)}
	for _, x := range picks {
		if x.Player == "" {
			b.open = append(b.open, x)
			continue
		}
		b.kept = append(b.kept, x)
		b.take(x.Player)
	}
	return b, api.OK
}

// follow returns a draft after some picks, and what is wrong with them.
func follow(r api.Room, k []api.Keep, s []api.Swap, l []api.Pick) (*board, api.Errno) {
	b, e := begin(r, k, s)
	if e != api.OK {
		return nil, e
	}
	e = check.Each(len(l), len(b.open), func(i int) api.Errno {
		if e := b.wrong(l[i]); e != api.OK {
			return e
		}
		b.add(l[i])
		return api.OK
	})
	return b, e
}

// next returns the next open pick, and whether there is one.
func (b *board) next() (api.Pick, bool) {
	if len(b.made) == len(b.open) {
		return api.Pick{}, false
	}
	return b.open[len(b.made)], true
}

// last returns the moment of the last pick, or of the Start.
func (b *board) last() int {
	if len(b.made) == 0 {
		return b.room.Start
	}
	return b.made[len(b.made)-1].At
}

// due returns when the time of the next pick is up, and whether there is such a moment.
func (b *board) due() (int, bool) {
	_, open := b.next()
	at := b.last() + b.room.Clock
	if !open || !check.Moment(at) {
		return 0, false
	}
	return at, true
}

// wrong says what is wrong with a pick that is the next one; there must be an open one.
func (b *board) wrong(x api.Pick) api.Errno {
	next, _ := b.next()
	return cmp.Or(
		check.Unless(check.Moment(x.At), api.ErrArg),
		check.Unless(x.No == next.No, api.ErrOrder),
		check.Unless(x.Team == next.Team, api.ErrConflict),
		check.Unless(among(b.room.Players, x.Player), api.ErrNone),
		check.Unless(among(b.left, x.Player), api.ErrTwice),
		check.Unless(x.At >= b.last(), api.ErrState))
}

// add puts a pick with which nothing is wrong behind the others.
func (b *board) add(x api.Pick) {
	b.made = append(b.made, x)
	b.take(x.Player)
}

// take takes a player away who is left.
func (b *board) take(player string) {
	place, _ := slices.BinarySearch(b.left, player)
	b.left = slices.Delete(b.left, place, place+1)
}
