package score

import (
	"cmp"
	"slices"
	"strings"

	"benchwarmer/api"
	"benchwarmer/check"
	"benchwarmer/fraction"
)

// CheckSlots says what is wrong with slots.
func CheckSlots(s []api.Slot) api.Errno {
	return cmp.Or(
		check.Unless(len(s) > 0, api.ErrNone),
		check.Each(len(s), api.MaxSlots, func(i int) api.Errno {
			x := s[i]
			earlier := slices.ContainsFunc(s[:i], func(y api.Slot) bool { return y.Key == x.Key })
			return cmp.Or(
				check.Unless(check.Key(x.Key), api.ErrName),
				check.Unless(!earlier, api.ErrTwice),
				check.Positions(x.Positions))
		}))
}

// CheckScorers says what is wrong with scorers.
func CheckScorers(l []api.Scorer) api.Errno {
	return check.Each(len(l), api.MaxRoster, func(i int) api.Errno {
		x := l[i]
		return cmp.Or(
			check.Unless(check.Key(x.Player), api.ErrName),
			check.Unless(i == 0 || l[i-1].Player < x.Player, api.ErrOrder),
			check.Positions(x.Positions),
			fraction.Wrong(x.Points, api.MaxWorth))
	})
}

// CheckFills says what is wrong with fills.
func CheckFills(s []api.Slot, l []api.Scorer, f []api.Fill) api.Errno {
	if e := cmp.Or(wrongSides(s, l), check.Unless(len(f) == len(s), api.ErrForm)); e != api.OK {
		return e
	}
	return check.Each(len(f), len(f), func(i int) api.Errno {
		x := f[i]
		if x.Slot != s[i].Key {
			return api.ErrNone
		}
		if x.Player == "" {
			return api.OK
		}
		who, there := find(l, x.Player)
		return cmp.Or(
			check.Unless(there, api.ErrNone),
			check.Unless(!fielded(f[:i], x.Player), api.ErrTwice),
			check.Unless(suits(who, s[i]), api.ErrType))
	})
}

// Sum returns the points of all who are in slots.
func Sum(s []api.Slot, l []api.Scorer, f []api.Fill, captain string) (api.Fraction, api.Errno) {
	e := cmp.Or(
		CheckFills(s, l, f),
		check.Unless(captain == "" || fielded(f, captain), api.ErrNone))
	if e != api.OK {
		return api.Fraction{}, e
	}
	twice, _ := find(l, captain)
	return fraction.OfHundredths(sum(l, f) + worth(twice)), api.OK
}

// Left returns by how much the best fills are more than others.
func Left(s []api.Slot, l []api.Scorer, f []api.Fill) (api.Fraction, api.Errno) {
	if e := CheckFills(s, l, f); e != api.OK {
		return api.Fraction{}, e
	}
	return fraction.OfHundredths(sum(l, best(s, l)) - sum(l, f)), api.OK
}

// Bench returns the scorers who are in no slot.
func Bench(s []api.Slot, l []api.Scorer, f []api.Fill) ([]string, api.Errno) {
	if e := CheckFills(s, l, f); e != api.OK {
		return nil, e
	}
	var bench []string
	for _, x := range l {
		if !fielded(f, x.Player) {
			bench = append(bench, x.Player)
		}
	}
	return bench, api.OK
}

// Subbed puts in who sat on the bench.
func Subbed(s []api.Slot, l []api.Scorer, f []api.Fill, bench []string) ([]api.Fill, api.Errno) {
	if e := cmp.Or(CheckFills(s, l, f), wrongNames(l, f, bench)); e != api.OK {
		return nil, e
	}
	fills := slices.Clone(f)
	for i, slot := range s {
		if played(l, fills[i].Player) {
			continue
		}
		number := slices.IndexFunc(bench, func(name string) bool {
			who, _ := find(l, name)
			return who.Played && suits(who, slot) && !fielded(fills, name)
		})
		if number >= 0 {
			fills[i].Player = bench[number]
		}
	}
	return fills, api.OK
}

// wrongSides says what is wrong with slots, and then with scorers.
func wrongSides(s []api.Slot, l []api.Scorer) api.Errno {
	return cmp.Or(CheckSlots(s), CheckScorers(l))
}

// wrongNames says what is wrong with a list of scorers of whom none may be in a slot.
func wrongNames(l []api.Scorer, f []api.Fill, names []string) api.Errno {
	return check.Each(len(names), api.MaxRoster, func(i int) api.Errno {
		_, there := find(l, names[i])
		return cmp.Or(
			check.Unless(there, api.ErrNone),
			check.Unless(!slices.Contains(names[:i], names[i]), api.ErrTwice),
			check.Unless(!fielded(f, names[i]), api.ErrConflict))
	})
}

// find returns a scorer, and whether there is one of this name; otherwise the zero value.
func find(l []api.Scorer, name string) (api.Scorer, bool) {
	number, there := slices.BinarySearchFunc(l, name, func(x api.Scorer, name string) int {
		return strings.Compare(x.Player, name)
	})
	if !there {
		return api.Scorer{}, false
	}
	return l[number], true
}

// suits says whether a scorer has one of the positions of a slot.
func suits(x api.Scorer, slot api.Slot) bool {
	return slices.ContainsFunc(x.Positions, func(position string) bool {
		return slices.Contains(slot.Positions, position)
	})
}

// fielded says whether a player is in a slot.
func fielded(f []api.Fill, player string) bool {
	return slices.ContainsFunc(f, func(x api.Fill) bool { return x.Player == player })
}

// played says whether there is a scorer of this name who did play.
func played(l []api.Scorer, name string) bool {
	who, _ := find(l, name)
	return who.Played
}

// sum returns the points of all who are in slots, in hundredths.
func sum(l []api.Scorer, f []api.Fill) int {
	all := 0
	for _, x := range f {
		who, _ := find(l, x.Player)
		all += worth(who)
	}
	return all
}

// worth returns the points of a scorer in hundredths; 0 for nobody.
func worth(x api.Scorer) int {
	if x.Player == "" {
		return 0
	}
	return fraction.Hundredths(x.Points)
}
