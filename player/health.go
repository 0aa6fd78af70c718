package player

import (
	"cmp"
	"sort"
	"strings"

	"benchwarmer/api"
	"benchwarmer/check"
)

// CheckHealth says what is wrong with how players are.
func CheckHealth(p []api.Player, h []api.Health) api.Errno {
	return cmp.Or(CheckPlayers(p), check.Each(len(h), api.MaxHealth, func(i int) api.Errno {
		x := h[i]
		e := cmp.Or(
			check.Unless(known(p, x.Player), api.ErrNone),
			check.Unless(1 <= x.From && x.From < x.To && x.To <= api.MaxWeeks+1, api.ErrArg),
			check.Unless(x.Kind == api.HealthDoubt || x.Kind == api.HealthOut, api.ErrKind))
		if e != api.OK || i == 0 {
			return e
		}
		before := h[i-1]
		return cmp.Or(
			check.Unless(compareHealth(before, x) < 0, api.ErrOrder),
			check.Unless(before.Player != x.Player || before.To <= x.From, api.ErrConflict))
	}))
}

// StateIn returns how a player is in a week.
func StateIn(p []api.Player, h []api.Health, who string, week int) (int, api.Errno) {
	e := cmp.Or(
		CheckHealth(p, h),
		check.Unless(known(p, who), api.ErrNone),
		check.Unless(check.Week(week), api.ErrArg))
	if e != api.OK {
		return 0, e
	}
	return stateIn(h, who, week), api.OK
}

func compareHealth(a, b api.Health) int {
	return cmp.Or(strings.Compare(a.Player, b.Player), cmp.Compare(a.From, b.From))
}

func stateIn(h []api.Health, who string, week int) int {
	asked := api.Health{Player: who, From: week}
	later := sort.Search(len(h), func(i int) bool { return compareHealth(h[i], asked) > 0 })
	if later == 0 || h[later-1].Player != who || h[later-1].To <= week {
		return api.HealthFit
	}
	return h[later-1].Kind
}
