package player

import (
	"cmp"
	"slices"
	"strings"

	"benchwarmer/api"
	"benchwarmer/check"
)

// CheckAppears says what is wrong with where players appeared.
func CheckAppears(p []api.Player, a []api.Appear) api.Errno {
	return cmp.Or(CheckPlayers(p), check.Each(len(a), api.MaxAppears, func(i int) api.Errno {
		x := a[i]
		return cmp.Or(
			check.Unless(known(p, x.Player), api.ErrNone),
			check.Unless(check.Key(x.Position), api.ErrName),
			check.Unless(check.Week(x.Week), api.ErrArg),
			check.Unless(i == 0 || compareAppears(a[i-1], x) < 0, api.ErrOrder))
	}))
}

// Grown returns the players with the positions that they have by a week.
func Grown(p []api.Player, a []api.Appear, least, week int) ([]api.Player, api.Errno) {
	e := cmp.Or(
		CheckAppears(p, a),
		check.Unless(check.Between(least, 1, api.MaxWeeks), api.ErrArg),
		check.Unless(check.Week(week), api.ErrArg))
	if e != api.OK {
		return nil, e
	}
	grown := clone(p)
	for i := least - 1; i < len(a); i++ {
		// Weeks rise within a player's position: if the one least - 1 places before is of it, too, so many different weeks are there.
		x, start := a[i], a[i-least+1]
		if x.Week <= week && start.Player == x.Player && start.Position == x.Position {
			gain(grown, x.Player, x.Position)
		}
	}
	for _, x := range grown {
		if len(x.Positions) > api.MaxPositions {
			return nil, api.ErrFull
		}
	}
	return grown, api.OK
}

// In returns the players who have a position.
func In(p []api.Player, position string) ([]string, api.Errno) {
	e := cmp.Or(CheckPlayers(p), check.Unless(check.Key(position), api.ErrName))
	if e != api.OK {
		return nil, e
	}
	return those(p, func(x api.Player) bool { return slices.Contains(x.Positions, position) }), api.OK
}

func compareAppears(a, b api.Appear) int {
	return cmp.Or(
		strings.Compare(a.Player, b.Player),
		strings.Compare(a.Position, b.Position),
		cmp.Compare(a.Week, b.Week))
}

func clone(p []api.Player) []api.Player {
	l := slices.Clone(p)
	for i := range l {
		l[i].Positions = slices.Clone(l[i].Positions)
	}
	return l
}

// gain gives a player a position, unless they have it.
func gain(p []api.Player, who, position string) {
	number, _ := find(p, who)
	have := p[number].Positions
	if place, there := slices.BinarySearch(have, position); !there {
		p[number].Positions = slices.Insert(have, place, position)
	}
}
