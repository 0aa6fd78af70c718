package roster

import (
	"cmp"
	"slices"
	"strings"

	"benchwarmer/api"
	"benchwarmer/check"
)

// CheckRosters says what is wrong with rosters.
func CheckRosters(b api.Bounds, r []api.Roster) api.Errno {
	if e := CheckBounds(b); e != api.OK {
		return e
	}
	e := check.Each(len(r), api.MaxTeams, func(i int) api.Errno {
		x := r[i]
		return cmp.Or(
			check.Unless(check.Key(x.Team), api.ErrName),
			check.Unless(i == 0 || r[i-1].Team < x.Team, api.ErrOrder),
			check.Unless(len(x.Players) <= b.Most && len(x.Hurt) <= b.Hurt, api.ErrFull),
			check.Rising(x.Players, b.Most),
			check.Rising(x.Hurt, b.Hurt))
	})
	if e != api.OK {
		return e
	}
	return wrongTogether(r)
}

// CheckClaims says what is wrong with purses and claims.
func CheckClaims(r []api.Roster, p []api.Purse, c []api.Claim) api.Errno {
	teams := map[string]bool{}
	for _, x := range r {
		teams[x.Team] = true
	}
	return cmp.Or(
		wrongPurses(r, p, teams),
		check.Each(len(c), api.MaxClaims, func(i int) api.Errno {
			x := c[i]
			return cmp.Or(
				check.Unless(teams[x.Team], api.ErrNone),
				check.Unless(check.Between(x.No, 1, api.MaxClaims) && check.Between(x.Bid, 0, api.MaxPurse), api.ErrArg),
				check.Unless(check.Key(x.Player) && (x.Drop == "" || check.Key(x.Drop)), api.ErrName),
				check.Unless(x.Player != x.Drop, api.ErrTwice),
				check.Unless(i == 0 || compareClaims(c[i-1], x) < 0, api.ErrOrder))
		}))
}

// Settle settles claims.
func Settle(b api.Bounds, r []api.Roster, p []api.Purse, c []api.Claim) ([]api.Settled, []api.Roster, []api.Purse, api.Errno) {
	if e := cmp.Or(CheckRosters(b, r), CheckClaims(r, p, c)); e != api.OK {
		return nil, nil, nil, e
	}
	s := &run{squads: squadsOf(r), bounds: b, purses: slices.Clone(p), dropped: map[string]bool{}}
	var settled []api.Settled
	for left := slices.Clone(c); len(left) > 0; {
		next := slices.MinFunc(left, s.compare)
		left = slices.DeleteFunc(left, func(x api.Claim) bool { return x == next })
		why := s.settle(next)
		settled = append(settled, api.Settled{Team: next.Team, No: next.No, Why: why})
	}
	return settled, s.list(), s.purses, api.OK
}

// wrongTogether says what is wrong with rosters of which none is wrong alone.
func wrongTogether(r []api.Roster) api.Errno {
	there := map[string]bool{}
	for _, x := range r {
		for _, player := range slices.Concat(x.Players, x.Hurt) {
			if there[player] {
				return api.ErrTwice
			}
			there[player] = true
		}
	}
	return api.OK
}

// wrongPurses says what is wrong with the purses of teams, which are those of the rosters.
func wrongPurses(r []api.Roster, p []api.Purse, teams map[string]bool) api.Errno {
	many := map[string]int{}
	for _, x := range p {
		many[x.Team]++
	}
	each := func(wrong func(x api.Purse) api.Errno) api.Errno {
		return check.Each(len(p), len(p), func(i int) api.Errno { return wrong(p[i]) })
	}
	return cmp.Or(
		check.Each(len(r), len(r), func(i int) api.Errno { return check.Unless(many[r[i].Team] == 1, api.ErrNone) }),
		each(func(x api.Purse) api.Errno { return check.Unless(teams[x.Team], api.ErrNone) }),
		each(func(x api.Purse) api.Errno { return check.Unless(check.Between(x.Left, 0, api.MaxPurse), api.ErrArg) }))
}

func compareClaims(a, b api.Claim) int {
	return cmp.Or(strings.Compare(a.Team, b.Team), cmp.Compare(a.No, b.No))
}

// run is claims being settled.
type run struct {
	squads
	bounds  api.Bounds
	purses  []api.Purse // in the order of priority
	dropped map[string]bool
}

// rank returns the place of a team in the order of priority.
func (s *run) rank(team string) int {
	return slices.IndexFunc(s.purses, func(x api.Purse) bool { return x.Team == team })
}

// compare puts the claim first that is settled first.
func (s *run) compare(a, b api.Claim) int {
	return cmp.Or(
		cmp.Compare(b.Bid, a.Bid),
		cmp.Compare(s.rank(a.Team), s.rank(b.Team)),
		cmp.Compare(a.No, b.No))
}

// settle grants a claim, or says why it fails.
func (s *run) settle(x api.Claim) api.Errno {
	rank := s.rank(x.Team)
	purse := s.purses[rank]
	if why := s.failure(x, purse.Left); why != api.OK {
		return why
	}
	if x.Drop != "" {
		s.drop(x.Team, x.Drop)
		s.dropped[x.Drop] = true
	}
	s.add(x.Team, x.Player)
	purse.Left -= x.Bid
	s.purses = append(slices.Delete(s.purses, rank, rank+1), purse)
	return api.OK
}

// failure says why a claim of a team with so much in its purse fails.
func (s *run) failure(x api.Claim, purse int) api.Errno {
	own := s.of(x.Team)
	many := len(own.Players)
	// Who is hurt leaves no place for another one.
	if slices.Contains(own.Players, x.Drop) {
		many--
	}
	return cmp.Or(
		check.Unless(x.Drop == "" || s.owners[x.Drop] == x.Team, api.ErrNone),
		check.Unless(s.owners[x.Player] == "", api.ErrConflict),
		check.Unless(!s.dropped[x.Player], api.ErrState),
		check.Unless(x.Bid <= purse, api.ErrRule),
		check.Unless(many < s.bounds.Most, api.ErrFull))
}
