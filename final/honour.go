package final

import (
	"cmp"
	"maps"
	"slices"
	"strconv"

	"benchwarmer/api"
	"benchwarmer/check"
	"benchwarmer/rising"
)

// maxHonours is how many honours a list can have at most: one for each season and place.
const maxHonours = api.MaxSeasons * api.MaxTeams

// CheckHonours says what is wrong with honours.
func CheckHonours(h []api.Honour) api.Errno {
	return check.Each(len(h), maxHonours, func(i int) api.Errno {
		x := h[i]
		return cmp.Or(
			check.Unless(check.Between(x.Season, 1, api.MaxSeasons) && check.Between(x.Place, 1, api.MaxTeams), api.ErrArg),
			check.Unless(check.Key(x.Team), api.ErrName),
			wrongPoints(x.Points),
			check.Unless(i == 0 || compareHonours(h[i-1], x) < 0, api.ErrOrder))
	})
}

// Merge returns the honours of both lists.
func Merge(a, b []api.Honour) ([]api.Honour, api.Errno) {
	if e := cmp.Or(CheckHonours(a), CheckHonours(b)); e != api.OK {
		return nil, e
	}
	// A list has room for each place of each season, so there can't be too many.
	all, agree := rising.Merge(a, b, compareHonours)
	if !agree {
		return nil, api.ErrConflict
	}
	return all, api.OK
}

// Titles returns how many times each team was first.
func Titles(h []api.Honour) ([]api.Pair, api.Errno) {
	if e := CheckHonours(h); e != api.OK {
		return nil, e
	}
	many := map[string]int{}
	last := map[string]int{} // the season in which a team reached its number
	for _, x := range firsts(h) {
		many[x.Team]++
		last[x.Team] = x.Season
	}
	// Names never decide: a season has one Place 1, so no two teams reach their number in the same one.
	teams := slices.SortedFunc(maps.Keys(many), func(a, b string) int {
		return cmp.Or(cmp.Compare(many[b], many[a]), cmp.Compare(last[a], last[b]))
	})
	var titles []api.Pair
	for _, team := range teams {
		titles = append(titles, api.Pair{Name: team, Value: strconv.Itoa(many[team])})
	}
	return titles, api.OK
}

// Dynasties returns the rows of titles of one team.
func Dynasties(h []api.Honour, least int) ([]api.Pair, api.Errno) {
	e := cmp.Or(CheckHonours(h), check.Unless(check.Between(least, 1, api.MaxSeasons), api.ErrArg))
	if e != api.OK {
		return nil, e
	}
	var dynasties []api.Pair
	for _, r := range reigns(h) {
		if r.to-r.from+1 >= least {
			dynasties = append(dynasties, api.Pair{Name: r.team, Value: strconv.Itoa(r.from) + "-" + strconv.Itoa(r.to)})
		}
	}
	return dynasties, api.OK
}

// reign is that a team is first from a season to another one, in all between them, too.
type reign struct {
	team     string
	from, to int
}

// reigns returns the reigns that are as long as possible, in order.
func reigns(h []api.Honour) []reign {
	var all []reign
	for _, x := range firsts(h) {
		last := len(all) - 1
		if last >= 0 && all[last].team == x.Team && all[last].to == x.Season-1 {
			all[last].to = x.Season
		} else {
			all = append(all, reign{x.Team, x.Season, x.Season})
		}
	}
	return all
}

// firsts returns the honours of those who were first, in order.
func firsts(h []api.Honour) []api.Honour {
	return slices.DeleteFunc(slices.Clone(h), func(x api.Honour) bool { return x.Place != 1 })
}

// compareHonours leaves out team and points: one team has a place in a season.
func compareHonours(a, b api.Honour) int {
	return cmp.Or(cmp.Compare(a.Season, b.Season), cmp.Compare(a.Place, b.Place))
}
