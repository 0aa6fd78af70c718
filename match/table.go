package match

import (
	"cmp"
	"slices"

	"benchwarmer/api"
	"benchwarmer/check"
	"benchwarmer/fraction"
)

// maxBreaks is how many tie-breaks a table can have.
const maxBreaks = 5

// recentGames is how many games of a team BreakRecent looks at.
const recentGames = 3

// Table returns the standings of all teams.
func Table(teams []string, g []api.Game, breaks []int) ([]api.Standing, api.Errno) {
	if e := cmp.Or(CheckGames(teams, g), wrongBreaks(breaks)); e != api.OK {
		return nil, e
	}
	return table(teams, sides(g), breaks), api.OK
}

// At returns the standings after a week.
func At(teams []string, g []api.Game, breaks []int, week int) ([]api.Standing, api.Errno) {
	e := cmp.Or(
		CheckGames(teams, g),
		wrongBreaks(breaks),
		check.Unless(check.Week(week), api.ErrArg))
	if e != api.OK {
		return nil, e
	}
	return table(teams, sides(upTo(g, week)), breaks), api.OK
}

// wrongBreaks says what is wrong with tie-breaks.
func wrongBreaks(breaks []int) api.Errno {
	return check.Each(len(breaks), maxBreaks, func(i int) api.Errno {
		return cmp.Or(
			check.Unless(check.Between(breaks[i], api.BreakHead, api.BreakRecent), api.ErrKind),
			check.Unless(!slices.Contains(breaks[:i], breaks[i]), api.ErrTwice))
	})
}

// table returns the standings of teams, which rise, after games.
func table(teams []string, l []side, breaks []int) []api.Standing {
	wins, draws, lost := times(l, 1), times(l, 0), times(l, -1)
	points := sums(l, side.worth)
	made := sums(l, func(s side) int { return s.made })
	against := sums(l, func(s side) int { return s.against })
	var standings []api.Standing
	for _, group := range ranked(teams, l, breaks) {
		rank := 1 + len(standings)
		for _, team := range group {
			standings = append(standings, api.Standing{
				Rank:    rank,
				Team:    team,
				Wins:    wins[team],
				Draws:   draws[team],
				Lost:    lost[team],
				Points:  points[team],
				For:     fraction.OfHundredths(made[team]),
				Against: fraction.OfHundredths(against[team]),
			})
		}
	}
	return standings
}

// ranked returns the groups of teams that are equal by all, the first ones first.
func ranked(teams []string, l []side, breaks []int) [][]string {
	groups := parted(teams, sums(l, side.worth))
	for _, kind := range breaks {
		var parts [][]string
		for _, group := range groups {
			parts = append(parts, parted(group, merits(kind, group, l))...)
		}
		groups = parts
	}
	return groups
}

// parted parts a group into those that have equal merits, the greatest ones first; the order in a part stays.
func parted(group []string, merits map[string]int) [][]string {
	sorted := slices.Clone(group)
	slices.SortStableFunc(sorted, func(a, b string) int { return cmp.Compare(merits[b], merits[a]) })
	var parts [][]string
	for i, team := range sorted {
		if i == 0 || merits[sorted[i-1]] != merits[team] {
			parts = append(parts, nil)
		}
		last := len(parts) - 1
		parts[last] = append(parts[last], team)
	}
	return parts
}

// merits returns what a tie-break goes by, for each team of a group of those that are equal by all before.
func merits(kind int, group []string, l []side) map[string]int {
	switch kind {
	case api.BreakHead:
		return sums(facing(group, l), side.worth)
	case api.BreakFor:
		return sums(l, func(s side) int { return s.made })
	case api.BreakDiff:
		return sums(l, func(s side) int { return s.made - s.against })
	case api.BreakWins:
		return times(l, 1)
	default:
		return sums(recent(l), side.worth)
	}
}

// facing returns the sides of games against a group: of its own teams, those of the games among each other.
func facing(group []string, l []side) []side {
	return slices.DeleteFunc(slices.Clone(l), func(s side) bool { return !slices.Contains(group, s.other) })
}

// recent returns the sides of the last games of each team.
func recent(l []side) []side {
	many := map[string]int{}
	var last []side
	for _, s := range slices.Backward(l) {
		if many[s.team] < recentGames {
			last = append(last, s)
		}
		many[s.team]++
	}
	return last
}
