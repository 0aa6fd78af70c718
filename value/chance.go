package value

import (
	"cmp"
	"slices"

	"benchwarmer/api"
	"benchwarmer/check"
	"benchwarmer/fraction"
)

// Chances returns how likely a team wins, draws and loses.
func Chances(a, b []api.Hope) (api.Chance, api.Errno) {
	if e := cmp.Or(CheckHopes(a), CheckHopes(b)); e != api.OK {
		return api.Chance{}, e
	}
	x, e := endsOf(a, b)
	if e != api.OK {
		return api.Chance{}, e
	}
	all := x.win + x.draw + x.lose
	return api.Chance{Win: fraction.Of(x.win, all), Draw: fraction.Of(x.draw, all), Lose: fraction.Of(x.lose, all)}, api.OK
}

// Better says whether a team wins more likely with another player in place of its own.
func Better(a, b []api.Hope, x, y api.Hope) (bool, api.Errno) {
	e := cmp.Or(
		CheckHopes(a),
		CheckHopes(b),
		CheckHopes([]api.Hope{x}),
		CheckHopes([]api.Hope{y}))
	if e != api.OK {
		return false, e
	}
	same := func(h api.Hope) bool { return h.Player == y.Player && slices.Equal(h.Outcomes, y.Outcomes) }
	ofX := func(h api.Hope) bool { return h.Player == x.Player }
	e = cmp.Or(
		check.Unless(slices.ContainsFunc(a, same), api.ErrNone),
		check.Unless(!slices.ContainsFunc(a, ofX) && !slices.ContainsFunc(b, ofX), api.ErrTwice))
	if e != api.OK {
		return false, e
	}
	now, e := endsOf(a, b)
	if e != api.OK {
		return false, e
	}
	then, e := endsOf(append(slices.DeleteFunc(slices.Clone(a), same), x), b)
	if e != api.OK {
		return false, e
	}
	// How many ways there are in all differs by the weights of x and y alone, so these compare as the chances do, and are small enough.
	return then.win*weights(y.Outcomes) > now.win*weights(x.Outcomes), api.OK
}

// ends is in how many ways, by the weights of outcomes, a team wins, draws and loses.
type ends struct{ win, draw, lose int }

// endsOf returns how two teams, with which nothing is wrong, can end; ErrFull if that is too much.
func endsOf(a, b []api.Hope) (ends, api.Errno) {
	if !countable(slices.Concat(a, b)) {
		return ends{}, api.ErrFull
	}
	own, first := spread(a)
	other, second := spread(b)
	if e := cmp.Or(first, second); e != api.OK {
		return ends{}, e
	}
	all := weights(other)
	var x ends
	below, next := 0, 0 // the weights of the other team's sums that are less, and which one is the first that is not
	for _, o := range own {
		for next < len(other) && other[next].Points < o.Points {
			below += other[next].Weight
			next++
		}
		as := 0
		if next < len(other) && other[next].Points == o.Points {
			as = other[next].Weight
		}
		x.win += o.Weight * below
		x.draw += o.Weight * as
		x.lose += o.Weight * (all - below - as)
	}
	return x, api.OK
}
