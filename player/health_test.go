package player

import (
	"math"
	"testing"

	"benchwarmer/api"
)

func health(player string, from, to, kind int) api.Health {
	return api.Health{Player: player, From: from, To: to, Kind: kind}
}

// manyHealth makes so many entries of p, each of one week.
func manyHealth(p []api.Player, many int) []api.Health {
	var h []api.Health
	for _, x := range p {
		for week := 1; week <= api.MaxWeeks && len(h) < many; week++ {
			h = append(h, health(x.Key, week, week+1, api.HealthOut))
		}
	}
	return h
}

// P1.2: CheckHealth.
func TestCheckHealth(t *testing.T) {
	p := people("ann gk Ann", "bob df Bob")
	doubt, out := api.HealthDoubt, api.HealthOut
	for _, x := range []struct {
		name string
		h    []api.Health
		want api.Errno
	}{
		{"none", nil, api.OK},
		{"ordinary", []api.Health{health("ann", 1, 3, out), health("ann", 3, 4, doubt), health("bob", 1, 61, out)}, api.OK},
		{"last week", []api.Health{health("ann", 60, 61, out)}, api.OK},
		{"no player", []api.Health{health("cat", 0, 0, 0)}, api.ErrNone},
		{"from 0", []api.Health{health("ann", 0, 3, 0)}, api.ErrArg},
		{"empty", []api.Health{health("ann", 3, 3, out)}, api.ErrArg},
		{"turned round", []api.Health{health("ann", 4, 3, out)}, api.ErrArg},
		{"to 62", []api.Health{health("ann", 1, 62, out)}, api.ErrArg},
		{"from 61", []api.Health{health("ann", 61, 62, out)}, api.ErrArg},
		{"to the least int", []api.Health{health("ann", 1, math.MinInt, out)}, api.ErrArg},
		{"to the greatest int", []api.Health{health("ann", 1, math.MaxInt, out)}, api.ErrArg},
		{"from the least int", []api.Health{health("ann", math.MinInt, 3, out)}, api.ErrArg},
		{"all of all ints", []api.Health{health("ann", math.MinInt, math.MinInt, out)}, api.ErrArg},
		{"fit", []api.Health{health("ann", 1, 3, api.HealthFit)}, api.ErrKind},
		{"kind 3", []api.Health{health("ann", 1, 3, 3)}, api.ErrKind},
		{"kind -1", []api.Health{health("ann", 1, 3, -1)}, api.ErrKind},
		{"kind before order", []api.Health{health("bob", 1, 3, out), health("ann", 1, 3, 0)}, api.ErrKind},
		{"players fall", []api.Health{health("bob", 1, 3, out), health("ann", 5, 6, out)}, api.ErrOrder},
		{"weeks fall", []api.Health{health("ann", 5, 6, out), health("ann", 1, 2, out)}, api.ErrOrder},
		{"same week", []api.Health{health("ann", 1, 2, out), health("ann", 1, 3, out)}, api.ErrOrder},
		{"overlap", []api.Health{health("ann", 1, 3, out), health("ann", 2, 3, doubt)}, api.ErrConflict},
		{"overlap of two", []api.Health{health("ann", 1, 3, out), health("bob", 2, 3, doubt)}, api.OK},
		{"first one first", []api.Health{health("ann", 1, 3, 0), health("cat", 1, 3, out)}, api.ErrKind},
		{"too many, and wrong", make([]api.Health, api.MaxHealth+1), api.ErrLarge},
	} {
		equal(t, x.name, CheckHealth(p, x.h), x.want)
	}
	large := crowd(20)
	equal(t, "most", CheckHealth(large, manyHealth(large, api.MaxHealth)), api.OK)
	equal(t, "too many", CheckHealth(large, manyHealth(large, api.MaxHealth+1)), api.ErrLarge)
	equal(t, "players first", CheckHealth(people("ann gk Ann", "ann gk Ann"), []api.Health{health("cat", 1, 2, out)}), api.ErrOrder)
}

// P1.2: StateIn.
func TestStateIn(t *testing.T) {
	p := people("ann gk Ann", "bob df Bob", "cat df Cat")
	h := []api.Health{
		health("ann", 2, 4, api.HealthOut), health("ann", 4, 5, api.HealthDoubt), health("ann", 6, 7, api.HealthOut),
		health("cat", 59, 61, api.HealthDoubt),
	}
	for _, x := range []struct {
		who        string
		week, want int
	}{
		{"ann", 1, api.HealthFit}, {"ann", 2, api.HealthOut}, {"ann", 3, api.HealthOut}, {"ann", 4, api.HealthDoubt},
		{"ann", 5, api.HealthFit}, {"ann", 6, api.HealthOut}, {"ann", 7, api.HealthFit}, {"ann", 60, api.HealthFit},
		{"bob", 2, api.HealthFit}, {"bob", 60, api.HealthFit},
		{"cat", 1, api.HealthFit}, {"cat", 58, api.HealthFit}, {"cat", 59, api.HealthDoubt}, {"cat", 60, api.HealthDoubt},
	} {
		state, e := StateIn(p, h, x.who, x.week)
		equal(t, x.who, e, api.OK)
		equal(t, x.who+" "+number(x.week), state, x.want)
	}
	for _, week := range []int{0, 61, math.MinInt, math.MaxInt} {
		_, e := StateIn(p, h, "ann", week)
		equal(t, "week", e, api.ErrArg)
		_, e = StateIn(p, h, "dan", week)
		equal(t, "who", e, api.ErrNone)
	}
}
