package roster

import (
	"maps"
	"slices"

	"benchwarmer/api"
)

// squads is who has whom.
type squads struct {
	rosters map[string]*api.Roster // of each team
	owners  map[string]string      // the team of each player whom somebody has
}

// squadsOf makes squads of rosters, with which it shares no memory.
func squadsOf(r []api.Roster) squads {
	s := squads{map[string]*api.Roster{}, map[string]string{}}
	for _, x := range r {
		s.rosters[x.Team] = &api.Roster{Team: x.Team, Players: slices.Clone(x.Players), Hurt: slices.Clone(x.Hurt)}
		for _, player := range slices.Concat(x.Players, x.Hurt) {
			s.owners[player] = x.Team
		}
	}
	return s
}

// of returns the roster of a team, which is there from now on.
func (s squads) of(team string) *api.Roster {
	if s.rosters[team] == nil {
		s.rosters[team] = &api.Roster{Team: team}
	}
	return s.rosters[team]
}

// list returns all rosters, by Team.
func (s squads) list() []api.Roster {
	var l []api.Roster
	for _, team := range slices.Sorted(maps.Keys(s.rosters)) {
		l = append(l, *s.rosters[team])
	}
	return l
}

// add gives a team a player whom nobody has.
func (s squads) add(team, player string) {
	own := s.of(team)
	own.Players = with(own.Players, player)
	s.owners[player] = team
}

// drop takes a player from a team.
func (s squads) drop(team, player string) {
	own := s.of(team)
	own.Players = without(own.Players, player)
	own.Hurt = without(own.Hurt, player)
	delete(s.owners, player)
}

// with puts a player to others, who rise.
func with(players []string, player string) []string {
	place, _ := slices.BinarySearch(players, player)
	return slices.Insert(players, place, player)
}

func without(players []string, player string) []string {
	return slices.DeleteFunc(players, func(x string) bool { return x == player })
}
