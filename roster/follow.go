package roster

import (
	"cmp"
	"slices"

	"benchwarmer/api"
	"benchwarmer/check"
)

// weekLong is how many milliseconds the weeks have in which adds are counted.
const weekLong = 7 * api.DayLong

// Refused returns the numbers of the refused moves, and why.
func Refused(b api.Bounds, l []api.Move) ([]int, []api.Errno, api.Errno) {
	if e := cmp.Or(CheckBounds(b), CheckMoves(l)); e != api.OK {
		return nil, nil, e
	}
	var numbers []int
	var reasons []api.Errno
	s := begin(b)
	for number, x := range l {
		if why := s.do(x); why != api.OK {
			numbers = append(numbers, number)
			reasons = append(reasons, why)
		}
	}
	return numbers, reasons, api.OK
}

// At returns the roster of a team at a moment.
func At(b api.Bounds, l []api.Move, team string, moment int) (api.Roster, api.Errno) {
	s, e := follow(b, l, wrongKey(team), moment)
	if e != api.OK {
		return api.Roster{}, e
	}
	return *s.of(team), api.OK
}

// All returns the rosters of all teams that moved.
func All(b api.Bounds, l []api.Move, moment int) ([]api.Roster, api.Errno) {
	s, e := follow(b, l, api.OK, moment)
	if e != api.OK {
		return nil, e
	}
	return s.list(), api.OK
}

// Owner returns who has a player.
func Owner(b api.Bounds, l []api.Move, player string, moment int) (string, api.Errno) {
	s, e := follow(b, l, wrongKey(player), moment)
	if e != api.OK {
		return "", e
	}
	return s.owners[player], api.OK
}

// Free returns those of some players who could be added.
func Free(b api.Bounds, l []api.Move, players []string, moment int) ([]string, api.Errno) {
	wrong := check.Each(len(players), api.MaxPlayers, func(i int) api.Errno { return wrongKey(players[i]) })
	s, e := follow(b, l, wrong, moment)
	if e != api.OK {
		return nil, e
	}
	var free []string
	for _, player := range players {
		if s.owners[player] == "" && s.held(player) <= moment {
			free = append(free, player)
		}
	}
	return free, api.OK
}

// FreeFrom returns from when on a player whom nobody has is free. This can be after the last moment, as the hold of one who is dropped late ends there.
func FreeFrom(b api.Bounds, l []api.Move, player string, moment int) (int, bool, api.Errno) {
	s, e := follow(b, l, wrongKey(player), moment)
	if e != api.OK || s.owners[player] != "" {
		return 0, false, e
	}
	return max(moment, s.held(player)), true, api.OK
}

// Adds returns how many adds a team has left.
func Adds(b api.Bounds, l []api.Move, team string, moment int) (int, api.Errno) {
	s, e := follow(b, l, wrongKey(team), moment)
	if e != api.OK {
		return 0, e
	}
	return s.addsLeft(team, moment), api.OK
}

func wrongKey(name string) api.Errno {
	return check.Unless(check.Key(name), api.ErrName)
}

// quota is what adds are counted for: a team in a week.
type quota struct {
	team string
	week int
}

// state is what moves have led to.
type state struct {
	squads
	bounds  api.Bounds
	dropped map[string]int // when each player was dropped last
	adds    map[quota]int
}

// begin returns the state before the first move.
func begin(b api.Bounds) *state {
	return &state{squads: squadsOf(nil), bounds: b, dropped: map[string]int{}, adds: map[quota]int{}}
}

// follow returns the state at a moment, or what is wrong; wrong is what is wrong with those who are asked for.
func follow(b api.Bounds, l []api.Move, wrong api.Errno, moment int) (*state, api.Errno) {
	e := cmp.Or(
		CheckBounds(b),
		CheckMoves(l),
		wrong,
		check.Unless(check.Moment(moment), api.ErrArg))
	if e != api.OK {
		return nil, e
	}
	s := begin(b)
	for _, x := range l {
		if x.At <= moment {
			s.do(x)
		}
	}
	return s, api.OK
}

// do does a move, or says why it is refused. Its team is there then, in both cases.
func (s *state) do(x api.Move) api.Errno {
	own := s.of(x.Team)
	if why := s.refusal(x, own); why != api.OK {
		return why
	}
	switch x.Kind {
	case api.MoveAdd:
		s.add(x.Team, x.Player)
		s.adds[quotaOf(x.Team, x.At)]++
	case api.MoveDrop:
		s.drop(x.Team, x.Player)
		s.dropped[x.Player] = x.At
	case api.MoveStash:
		own.Players = without(own.Players, x.Player)
		own.Hurt = with(own.Hurt, x.Player)
	case api.MoveBack:
		own.Hurt = without(own.Hurt, x.Player)
		own.Players = with(own.Players, x.Player)
	}
	return api.OK
}

// refusal says why a move of a team, which has this roster, is refused.
func (s *state) refusal(x api.Move, own *api.Roster) api.Errno {
	owner := s.owners[x.Player]
	full := check.Unless(len(own.Players) < s.bounds.Most, api.ErrFull)
	switch x.Kind {
	case api.MoveAdd:
		return cmp.Or(
			check.Unless(owner != x.Team, api.ErrTwice),
			check.Unless(owner == "", api.ErrConflict),
			check.Unless(s.held(x.Player) <= x.At, api.ErrState),
			check.Unless(s.addsLeft(x.Team, x.At) > 0, api.ErrRule),
			full)
	case api.MoveStash:
		return cmp.Or(
			check.Unless(slices.Contains(own.Players, x.Player), api.ErrNone),
			check.Unless(len(own.Hurt) < s.bounds.Hurt, api.ErrFull))
	case api.MoveBack:
		return cmp.Or(
			check.Unless(slices.Contains(own.Hurt, x.Player), api.ErrNone),
			full)
	default:
		return check.Unless(owner == x.Team, api.ErrNone)
	}
}

// held returns until when a player can't be added, as they were dropped.
func (s *state) held(player string) int {
	at, was := s.dropped[player]
	if !was {
		return 0
	}
	return at + s.bounds.Hold
}

// addsLeft returns how many adds a team has left in the week of a moment.
func (s *state) addsLeft(team string, moment int) int {
	return s.bounds.Adds - s.adds[quotaOf(team, moment)]
}

func quotaOf(team string, moment int) quota {
	return quota{team, moment / weekLong}
}
