package play

import (
	"cmp"
	"iter"
	"slices"
	"strings"

	"benchwarmer/api"
	"benchwarmer/check"
)

// maxLines is how many lines there can be.
const maxLines = api.MaxPlayers * api.MaxWeeks

// CheckLines says what is wrong with lines.
func CheckLines(l []api.Line) api.Errno {
	return check.Each(len(l), maxLines, func(i int) api.Errno {
		x := l[i]
		return cmp.Or(
			check.Unless(check.Key(x.Player), api.ErrName),
			check.Unless(check.Week(x.Week), api.ErrArg),
			wrongStats(x.Stats),
			check.Unless(i == 0 || compareLines(l[i-1], x) < 0, api.ErrOrder))
	})
}

// Differ returns all counts that differ.
func Differ(a, b []api.Line) ([]api.Turned, api.Errno) {
	if e := cmp.Or(CheckLines(a), CheckLines(b)); e != api.OK {
		return nil, e
	}
	return differ(a, b), api.OK
}

// Count returns one count.
func Count(l []api.Line, player string, week int, stat string) (int, api.Errno) {
	e := cmp.Or(
		CheckLines(l),
		check.Unless(check.Key(player), api.ErrName),
		check.Unless(check.Week(week), api.ErrArg),
		check.Unless(check.Key(stat), api.ErrName))
	if e != api.OK {
		return 0, e
	}
	line := found(l, api.Line{Player: player, Week: week}, compareLines)
	return found(line.Stats, api.Stat{Name: stat}, compareStats).Count, api.OK
}

// Sums returns for each player all weeks together.
func Sums(l []api.Line) ([]api.Line, api.Errno) {
	if e := CheckLines(l); e != api.OK {
		return nil, e
	}
	sums := tally{}
	for _, x := range l {
		x.Week = 1
		sums.put(x)
	}
	return fitting(sums.lines())
}

func wrongStats(l []api.Stat) api.Errno {
	return check.Each(len(l), api.MaxStats, func(i int) api.Errno {
		x := l[i]
		return cmp.Or(
			check.Unless(check.Key(x.Name), api.ErrName),
			check.Unless(countable(x.Count) && x.Count != 0, api.ErrArg),
			check.Unless(i == 0 || compareStats(l[i-1], x) < 0, api.ErrOrder))
	})
}

func compareLines(a, b api.Line) int {
	return cmp.Or(strings.Compare(a.Player, b.Player), cmp.Compare(a.Week, b.Week))
}

func compareStats(a, b api.Stat) int {
	return strings.Compare(a.Name, b.Name)
}

// found returns the element of a rising list that has the same place as the one asked for; the zero value if there is none.
func found[T any](l []T, asked T, compare func(x, y T) int) T {
	number, there := slices.BinarySearchFunc(l, asked, compare)
	if !there {
		var none T
		return none
	}
	return l[number]
}

// differ returns the counts that differ in lines that are in order.
func differ(a, b []api.Line) []api.Turned {
	var turned []api.Turned
	for was, now := range pairs(a, b, compareLines) {
		for x, y := range pairs(was.Stats, now.Stats, compareStats) {
			if x.Count != y.Count {
				turned = append(turned, api.Turned{
					Player: cmp.Or(was.Player, now.Player),
					Week:   cmp.Or(was.Week, now.Week),
					Stat:   cmp.Or(x.Name, y.Name),
					Was:    x.Count,
					Now:    y.Count,
				})
			}
		}
	}
	return turned
}

// pairs goes through two rising lists at once: elements with the same place come together, others with the zero value for the one that is missing.
func pairs[T any](a, b []T, compare func(x, y T) int) iter.Seq2[T, T] {
	return func(yield func(x, y T) bool) {
		i, j := 0, 0
		for i < len(a) || j < len(b) {
			var x, y T
			order := first(a[i:], b[j:], compare)
			if order <= 0 {
				x = a[i]
				i++
			}
			if order >= 0 {
				y = b[j]
				j++
			}
			if !yield(x, y) {
				return
			}
		}
	}
}

// first says in which of two lists, of which one is not empty, the least element is: below 0 in a, above 0 in b, 0 in both.
func first[T any](a, b []T, compare func(x, y T) int) int {
	if len(a) == 0 {
		return 1
	}
	if len(b) == 0 {
		return -1
	}
	return compare(a[0], b[0])
}
