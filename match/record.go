package match

import (
	"cmp"
	"slices"
	"strconv"
	"strings"

	"benchwarmer/api"
	"benchwarmer/check"
)

// Streak returns how many games a team has won, or lost, in a row, and its longest row of wins.
func Streak(teams []string, g []api.Game, team string) (int, int, api.Errno) {
	if e := cmp.Or(CheckGames(teams, g), wrongTeam(teams, team)); e != api.OK {
		return 0, 0, e
	}
	row, longest := 0, 0
	for _, s := range sidesOf(g, team) {
		if row*s.end() <= 0 {
			row = 0
		}
		row += s.end()
		longest = max(longest, row)
	}
	return row, longest, api.OK
}

// Faced returns how a team stands against each other one.
func Faced(teams []string, g []api.Game, team string) ([]api.Pair, api.Errno) {
	if e := cmp.Or(CheckGames(teams, g), wrongTeam(teams, team)); e != api.OK {
		return nil, e
	}
	own := sidesOf(g, team)
	var pairs []api.Pair
	for _, other := range teams {
		if other != team {
			pairs = append(pairs, api.Pair{Name: other, Value: balance(own, other)})
		}
	}
	return pairs, api.OK
}

// Median returns the teams that have more than the median of a week.
func Median(teams []string, g []api.Game, week int) ([]string, api.Errno) {
	if e := cmp.Or(CheckGames(teams, g), check.Unless(check.Week(week), api.ErrArg)); e != api.OK {
		return nil, e
	}
	those := weekOf(g, week)
	if slices.ContainsFunc(those, func(x api.Game) bool { return !x.Played }) {
		return nil, api.ErrState
	}
	l := sides(those)
	if len(l) == 0 {
		return nil, api.OK
	}
	slices.SortFunc(l, func(a, b side) int { return cmp.Compare(a.made, b.made) })
	// A game has two teams, so there are always two in the middle.
	twice := l[len(l)/2-1].made + l[len(l)/2].made
	var above []string
	for _, s := range l {
		if 2*s.made > twice {
			above = append(above, s.team)
		}
	}
	slices.Sort(above)
	return above, api.OK
}

// Alike returns how many pairs of teams have met more often than others.
func Alike(teams []string, g []api.Game) (int, api.Errno) {
	if e := CheckGames(teams, g); e != api.OK {
		return 0, e
	}
	met := map[[2]string]int{} // by both teams, in both orders
	for _, x := range g {
		met[[2]string{x.Home, x.Away}]++
		met[[2]string{x.Away, x.Home}]++
	}
	var all []int
	for i, team := range teams {
		for _, other := range teams[i+1:] {
			all = append(all, met[[2]string{team, other}])
		}
	}
	least := slices.Min(all)
	return len(slices.DeleteFunc(all, func(n int) bool { return n == least })), api.OK
}

// balance writes how often a team, with these sides, has won, drawn and lost against another one.
func balance(own []side, other string) string {
	many := map[int]int{}
	for _, s := range own {
		if s.other == other {
			many[s.end()]++
		}
	}
	return strings.Join([]string{strconv.Itoa(many[1]), strconv.Itoa(many[0]), strconv.Itoa(many[-1])}, "-")
}
