package score

import (
	"cmp"
	"slices"

	"benchwarmer/api"
	"benchwarmer/fraction"
)

// Best returns the fills with the greatest sum.
func Best(s []api.Slot, l []api.Scorer) ([]api.Fill, api.Fraction, api.Errno) {
	if e := wrongSides(s, l); e != api.OK {
		return nil, api.Fraction{}, e
	}
	fills := best(s, l)
	return fills, fraction.OfHundredths(sum(l, fills)), api.OK
}

// Can says whether some players can be in slots all at once.
func Can(s []api.Slot, l []api.Scorer, who []string) (bool, api.Errno) {
	if e := cmp.Or(wrongSides(s, l), wrongNames(l, nil, who)); e != api.OK {
		return false, e
	}
	place := placing(len(s), func(name, slot int) bool {
		x, _ := find(l, who[name])
		return suits(x, s[slot])
	})
	for name := range who {
		if !place(name) {
			return false, api.OK
		}
	}
	return true, api.OK
}

// Lacking returns the slots that stay empty.
func Lacking(s []api.Slot, l []api.Scorer) ([]string, api.Errno) {
	if e := wrongSides(s, l); e != api.OK {
		return nil, e
	}
	// Here it is the slots that are placed, one after the other. One that can't be filled besides those before stays empty, and as many of those behind it can be filled as with any other choice.
	fill := placing(len(l), func(slot, scorer int) bool { return suits(l[scorer], s[slot]) })
	var keys []string
	for slot, x := range s {
		if !fill(slot) {
			keys = append(keys, x.Key)
		}
	}
	return keys, api.OK
}

// placing returns a function that places one more at one of so many places, each for one, and says whether it could. Who is placed already may be moved, but stays placed.
func placing(places int, fits func(who, place int) bool) func(who int) bool {
	taken, holders := make([]bool, places), make([]int, places)
	return func(who int) bool {
		asked := make([]bool, places)
		var settle func(who int) bool
		settle = func(who int) bool {
			for place := range places {
				if asked[place] || !fits(who, place) {
					continue
				}
				asked[place] = true
				if !taken[place] || settle(holders[place]) {
					taken[place], holders[place] = true, who
					return true
				}
			}
			return false
		}
		return settle(who)
	}
}

// best returns the fills with the greatest sum, of several those with the least list of players.
//
// Only those with points above 0 are looked at. Then fills with the greatest sum have as many players as can be placed at all, since one more would give more: none of them have fewer than others.
func best(s []api.Slot, l []api.Scorer) []api.Fill {
	fits := fitting(s, l)
	left := winners(l)
	open := greatest(l, left, len(s), fits)
	fills := make([]api.Fill, len(s))
	for i, slot := range s {
		fills[i].Slot = slot.Key
		// rest returns the greatest sum of some scorers in the slots behind this one.
		rest := func(left []int) int {
			return greatest(l, left, len(s)-i-1, func(scorer, place int) bool { return fits(scorer, i+1+place) })
		}
		if rest(left) == open {
			continue
		}
		for who, x := range l {
			others := without(left, who)
			if len(others) < len(left) && fits(who, i) && worth(x)+rest(others) == open {
				fills[i].Player = x.Player
				left, open = others, open-worth(x)
				break
			}
		}
	}
	return fills
}

// greatest returns the greatest sum, in hundredths, of those who can be placed at once; in who those with the most points come first.
//
// It is never wrong to place the next one if that is possible besides those before: in a way without them they can take the place of somebody who comes later, and has not more points.
func greatest(l []api.Scorer, who []int, places int, fits func(who, place int) bool) int {
	place := placing(places, fits)
	all := 0
	for _, scorer := range who {
		if place(scorer) {
			all += worth(l[scorer])
		}
	}
	return all
}

// fitting returns a function that says whether a scorer suits a slot. It looks that up, as it is asked often.
func fitting(s []api.Slot, l []api.Scorer) func(scorer, slot int) bool {
	table := make([][]bool, len(l))
	for i, x := range l {
		for _, slot := range s {
			table[i] = append(table[i], suits(x, slot))
		}
	}
	return func(scorer, slot int) bool { return table[scorer][slot] }
}

// winners returns the numbers of the scorers with points above 0, those with the most first.
func winners(l []api.Scorer) []int {
	var who []int
	for i, x := range l {
		if worth(x) > 0 {
			who = append(who, i)
		}
	}
	slices.SortFunc(who, func(a, b int) int {
		return cmp.Or(cmp.Compare(worth(l[b]), worth(l[a])), cmp.Compare(a, b))
	})
	return who
}

// without returns the numbers but one.
func without(numbers []int, one int) []int {
	return slices.DeleteFunc(slices.Clone(numbers), func(n int) bool { return n == one })
}
