// Package player is about players: their positions, clubs, health and fixtures.
package player

import (
	"cmp"
	"slices"
	"sort"
	"strings"

	"benchwarmer/api"
	"benchwarmer/check"
)

// CheckPlayers says what is wrong with players.
func CheckPlayers(l []api.Player) api.Errno {
	return check.Each(len(l), api.MaxPlayers, func(i int) api.Errno {
		x := l[i]
		return cmp.Or(
			check.Unless(check.Key(x.Key), api.ErrName),
			check.Unless(i == 0 || l[i-1].Key < x.Key, api.ErrOrder),
			check.Unless(title(x.Name), api.ErrForm),
			check.Positions(x.Positions))
	})
}

// CheckStints says what is wrong with stints.
func CheckStints(p []api.Player, l []api.Stint) api.Errno {
	return cmp.Or(CheckPlayers(p), check.Each(len(l), api.MaxStints, func(i int) api.Errno {
		x := l[i]
		return cmp.Or(
			check.Unless(known(p, x.Player), api.ErrNone),
			check.Unless(x.Club == "" || check.Key(x.Club), api.ErrName),
			check.Unless(check.Week(x.Week), api.ErrArg),
			check.Unless(i == 0 || compareStints(l[i-1], x) < 0, api.ErrOrder))
	}))
}

// ClubIn returns the club of a player in a week.
func ClubIn(p []api.Player, l []api.Stint, who string, week int) (string, api.Errno) {
	e := cmp.Or(
		CheckStints(p, l),
		check.Unless(known(p, who), api.ErrNone),
		check.Unless(check.Week(week), api.ErrArg))
	if e != api.OK {
		return "", e
	}
	return clubIn(l, who, week), api.OK
}

// Squad returns the players of a club in a week.
func Squad(p []api.Player, l []api.Stint, club string, week int) ([]string, api.Errno) {
	e := cmp.Or(
		CheckStints(p, l),
		check.Unless(check.Key(club), api.ErrName),
		check.Unless(check.Week(week), api.ErrArg))
	if e != api.OK {
		return nil, e
	}
	return those(p, func(x api.Player) bool { return clubIn(l, x.Key, week) == club }), api.OK
}

// title says whether a string can be a player's Name, or be looked for in one.
func title(s string) bool {
	return s != "" && len(s) <= api.MaxTitle && check.Plain(s)
}

// find returns the number of a player, and whether there is one.
func find(p []api.Player, who string) (int, bool) {
	return slices.BinarySearchFunc(p, who, func(x api.Player, key string) int {
		return strings.Compare(x.Key, key)
	})
}

func known(p []api.Player, who string) bool {
	_, there := find(p, who)
	return there
}

// those returns the Keys of the players who are meant, rising as players do.
func those(p []api.Player, meant func(x api.Player) bool) []string {
	var keys []string
	for _, x := range p {
		if meant(x) {
			keys = append(keys, x.Key)
		}
	}
	return keys
}

func compareStints(a, b api.Stint) int {
	return cmp.Or(strings.Compare(a.Player, b.Player), cmp.Compare(a.Week, b.Week))
}

func clubIn(l []api.Stint, who string, week int) string {
	asked := api.Stint{Player: who, Week: week}
	later := sort.Search(len(l), func(i int) bool { return compareStints(l[i], asked) > 0 })
	if later == 0 || l[later-1].Player != who {
		return ""
	}
	return l[later-1].Club
}
