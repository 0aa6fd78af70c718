package player

import (
	"cmp"
	"slices"
	"strings"

	"benchwarmer/api"
	"benchwarmer/check"
)

// CheckFixtures says what is wrong with fixtures.
func CheckFixtures(f []api.Fixture) api.Errno {
	return check.Each(len(f), api.MaxFixtures, func(i int) api.Errno {
		x := f[i]
		return cmp.Or(
			check.Unless(check.Week(x.Week) && check.Moment(x.At), api.ErrArg),
			check.Unless(check.Key(x.Home) && check.Key(x.Away), api.ErrName),
			check.Unless(x.Home != x.Away, api.ErrTwice),
			check.Unless(i == 0 || compareFixtures(f[i-1], x) < 0, api.ErrOrder))
	})
}

// Games returns the fixtures of a club in a week.
func Games(f []api.Fixture, club string, week int) ([]api.Fixture, api.Errno) {
	e := cmp.Or(
		CheckFixtures(f),
		check.Unless(check.Key(club), api.ErrName),
		check.Unless(check.Week(week), api.ErrArg))
	if e != api.OK {
		return nil, e
	}
	var games []api.Fixture
	for _, x := range f {
		if x.Week == week && (x.Home == club || x.Away == club) {
			games = append(games, x)
		}
	}
	return games, api.OK
}

// Idle returns the clubs that have fixtures, but none in a week.
func Idle(f []api.Fixture, week int) ([]string, api.Errno) {
	e := cmp.Or(CheckFixtures(f), check.Unless(check.Week(week), api.ErrArg))
	if e != api.OK {
		return nil, e
	}
	var clubs []string
	for _, x := range f {
		clubs = append(clubs, x.Home, x.Away)
	}
	slices.Sort(clubs)
	begins := firsts(f, week)
	return slices.DeleteFunc(slices.Compact(clubs), func(club string) bool {
		_, plays := begins[club]
		return plays
	}), api.OK
}

// First returns when a player's club has its first fixture in a week.
func First(p []api.Player, l []api.Stint, f []api.Fixture, who string, week int) (int, bool, api.Errno) {
	e := cmp.Or(
		CheckStints(p, l),
		CheckFixtures(f),
		check.Unless(known(p, who), api.ErrNone),
		check.Unless(check.Week(week), api.ErrArg))
	if e != api.OK {
		return 0, false, e
	}
	begin, plays := firsts(f, week)[clubIn(l, who, week)]
	return begin, plays, api.OK
}

// Fieldable returns the players who can be fielded in a week.
func Fieldable(p []api.Player, l []api.Stint, h []api.Health, f []api.Fixture, week, at int) ([]string, api.Errno) {
	e := cmp.Or(
		CheckStints(p, l),
		CheckHealth(p, h),
		CheckFixtures(f),
		check.Unless(check.Week(week), api.ErrArg),
		check.Unless(check.Moment(at), api.ErrArg))
	if e != api.OK {
		return nil, e
	}
	begins := firsts(f, week)
	return those(p, func(x api.Player) bool {
		begin, plays := begins[clubIn(l, x.Key, week)]
		return plays && begin > at && stateIn(h, x.Key, week) != api.HealthOut
	}), api.OK
}

func compareFixtures(a, b api.Fixture) int {
	return cmp.Or(
		cmp.Compare(a.Week, b.Week),
		cmp.Compare(a.At, b.At),
		strings.Compare(a.Home, b.Home))
}

// firsts returns the At of the first fixture of each club that has one in a week. The empty club, which is none, has none.
func firsts(f []api.Fixture, week int) map[string]int {
	begins := map[string]int{}
	begin := func(club string, at int) {
		if _, earlier := begins[club]; !earlier {
			begins[club] = at
		}
	}
	for _, x := range f {
		if x.Week == week {
			begin(x.Home, x.At)
			begin(x.Away, x.At)
		}
	}
	return begins
}
