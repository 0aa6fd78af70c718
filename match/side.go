package match

import (
	"cmp"
	"slices"

	"benchwarmer/api"
	"benchwarmer/fraction"
)

// side is a game that was played, as one of its teams sees it; points are in hundredths.
type side struct {
	team, other   string
	made, against int
}

// sides returns both sides of each game that was played, in the order of games.
func sides(g []api.Game) []side {
	var l []side
	for _, x := range g {
		if x.Played {
			home, away := fraction.Hundredths(x.For), fraction.Hundredths(x.Other)
			l = append(l, side{x.Home, x.Away, home, away}, side{x.Away, x.Home, away, home})
		}
	}
	return l
}

// sidesOf returns the sides of a team, in the order of games.
func sidesOf(g []api.Game, team string) []side {
	return slices.DeleteFunc(sides(g), func(s side) bool { return s.team != team })
}

// end returns 1 for a win, 0 for a draw, and -1 for a defeat.
func (s side) end() int {
	return cmp.Compare(s.made, s.against)
}

// worth returns the match points: 2 for a win, 1 for a draw.
func (s side) worth() int {
	return 1 + s.end()
}

// sums returns for each team the sum of something of its sides.
func sums(l []side, of func(s side) int) map[string]int {
	all := map[string]int{}
	for _, s := range l {
		all[s.team] += of(s)
	}
	return all
}

// times returns how often each team had an end.
func times(l []side, end int) map[string]int {
	many := map[string]int{}
	for _, s := range l {
		if s.end() == end {
			many[s.team]++
		}
	}
	return many
}
