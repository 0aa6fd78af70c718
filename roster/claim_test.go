package roster

import (
	"fmt"
	"maps"
	"math"
	"math/rand/v2"
	"slices"
	"strings"
	"testing"

	"benchwarmer/api"
)

// P5.3: CheckRosters.
func TestCheckRosters(t *testing.T) {
	long := key(0) + "k"
	for _, x := range []struct {
		name string
		r    []api.Roster
		want api.Errno
	}{
		{"none", nil, api.OK},
		{"empty ones", rosters("x", "y"), api.OK},
		{"ordinary", rosters("x b d / c", "y a e", "z / f"), api.OK},
		{"players of the names of teams", rosters("x x", "y y"), api.OK},
		{"longest names", []api.Roster{{Team: key(0), Players: keys(2)}}, api.OK},
		{"most teams", manyRosters(api.MaxTeams, 1), api.OK},
		{"too many teams", manyRosters(api.MaxTeams+1, 1), api.ErrLarge},
		{"too many teams, and wrong", make([]api.Roster, api.MaxTeams+1), api.ErrLarge},
		{"nothing", []api.Roster{{}}, api.ErrName},
		{"team no key", rosters("y", "X a b c"), api.ErrName},
		{"team too long", rosters(long), api.ErrName},
		{"team twice", rosters("x", "x a b c"), api.ErrOrder},
		{"teams fall", rosters("y", "x a b c"), api.ErrOrder},
		{"too many players", rosters("x C B A / e d"), api.ErrFull},
		{"too many hurt ones", rosters("x B A / e d"), api.ErrFull},
		{"player no key", rosters("x b A / C"), api.ErrName},
		{"player too long", rosters("x a " + long), api.ErrName},
		{"no player", []api.Roster{{Team: "x", Players: []string{""}}}, api.ErrName},
		{"player twice", rosters("x a a / C"), api.ErrOrder},
		{"players fall", rosters("x b a / C"), api.ErrOrder},
		{"hurt one no key", rosters("x a b / C"), api.ErrName},
		{"hurt one less than the players", rosters("x b c / a"), api.OK},
		{"hurt one too", rosters("x a b / b"), api.ErrTwice},
		{"of two teams", rosters("x a", "y a"), api.ErrTwice},
		{"hurt of two teams", rosters("x / a", "y / a"), api.ErrTwice},
		{"hurt of a team, player of another", rosters("x / a", "y a b", "z c"), api.ErrTwice},
		{"first one first", rosters("x b a", "X"), api.ErrOrder},
		{"twice, and then wrong", rosters("x a", "y a", "z B"), api.ErrName},
	} {
		equal(t, x.name, CheckRosters(bounds(), x.r), x.want)
	}
	equal(t, "bounds first", CheckRosters(api.Bounds{}, make([]api.Roster, api.MaxTeams+1)), api.ErrArg)
	equal(t, "largest", CheckRosters(widest(), manyRosters(api.MaxTeams, api.MaxRoster)), api.OK)
	for _, wrong := range []api.Roster{{Team: "x", Players: keys(api.MaxRoster + 1)}, {Team: "x", Hurt: keys(api.MaxRoster + 1)}} {
		equal(t, "larger", CheckRosters(widest(), []api.Roster{wrong}), api.ErrFull)
	}
	b := widest()
	b.Hurt = 3
	equal(t, "hurt ones fall", CheckRosters(b, rosters("x a / c b")), api.ErrOrder)
	equal(t, "hurt one twice", CheckRosters(b, rosters("x a / b b")), api.ErrOrder)
	equal(t, "hurt ones rise", CheckRosters(b, rosters("x c / a b")), api.OK)
	b.Hurt = 0
	equal(t, "nobody can be hurt", CheckRosters(b, rosters("x / a")), api.ErrFull)
	equal(t, "nobody is hurt", CheckRosters(b, rosters("x a")), api.OK)
}

// P5.3: CheckClaims, as to purses.
func TestCheckPurses(t *testing.T) {
	r := rosters("x a", "y b", "z c")
	for _, x := range []struct {
		name   string
		purses []api.Purse
		want   api.Errno
	}{
		{"ordinary", purses("x 1", "y 2", "z 3"), api.OK},
		{"in another order", purses("z 1", "x 1", "y 1"), api.OK},
		{"least and greatest", purses("x 0", "y 1000000", "z 0"), api.OK},
		{"none", nil, api.ErrNone},
		{"one is missing", purses("x 1", "z 3"), api.ErrNone},
		{"the last one is missing, one is wrong", purses("x -1", "y 2"), api.ErrNone},
		{"one twice", purses("x 1", "y 2", "z 3", "y 2"), api.ErrNone},
		{"one twice, one missing", purses("x 1", "x 1", "z 3"), api.ErrNone},
		{"one without a roster", purses("x 1", "y 2", "z 3", "w 4"), api.ErrNone},
		{"of no key", append(purses("x 1", "y 2", "z 3"), api.Purse{}), api.ErrNone},
		{"wrong, then without a roster", purses("x -1", "y 2", "z 3", "w 4"), api.ErrNone},
		{"below 0", purses("x 1", "y -1", "z 3"), api.ErrArg},
		{"too much", purses("x 1", "y 2", "z 1000001"), api.ErrArg},
		{"least", append(purses("x 1", "y 2"), api.Purse{Team: "z", Left: math.MinInt}), api.ErrArg},
		{"most", append(purses("x 1", "y 2"), api.Purse{Team: "z", Left: math.MaxInt}), api.ErrArg},
	} {
		equal(t, x.name, CheckClaims(r, x.purses, nil), x.want)
		many := make([]api.Claim, api.MaxClaims+1)
		equal(t, x.name+": before claims", CheckClaims(r, x.purses, many) == api.ErrLarge, x.want == api.OK)
	}
	equal(t, "nothing", CheckClaims(nil, nil, nil), api.OK)
	equal(t, "no rosters", CheckClaims(nil, purses("x 1"), nil), api.ErrNone)
}

// P5.3: CheckClaims, as to claims.
func TestCheckClaims(t *testing.T) {
	r, p := rosters("x a", "y b"), purses("y 10", "x 10")
	long := key(0) + "k"
	var most []api.Claim
	for i := range api.MaxClaims {
		most = append(most, api.Claim{Team: "x", No: 1 + i, Player: "p"})
	}
	for _, x := range []struct {
		name string
		c    []api.Claim
		want api.Errno
	}{
		{"none", nil, api.OK},
		{"ordinary", claims("x 1 5 p", "x 2 0 q a", "y 1 5 p", "y 3 10 q b"), api.OK},
		{"that will fail", claims("x 1 11 a b"), api.OK},
		{"greatest numbers", claims("x 500 1000000 p"), api.OK},
		{"longest names", claims("x 1 0 " + key(0) + " " + key(1)), api.OK},
		{"most", most, api.OK},
		{"by team first", claims("x 2 0 p", "y 1 0 p"), api.OK},
		{"too many", append(most, claims("y 1 0 p")...), api.ErrLarge},
		{"too many, and wrong", make([]api.Claim, api.MaxClaims+1), api.ErrLarge},
		{"nothing", []api.Claim{{}}, api.ErrNone},
		{"no such team", claims("z 0 -1 P"), api.ErrNone},
		{"team no key", claims("X 0 -1 P"), api.ErrNone},
		{"number 0", claims("x 0 5 P"), api.ErrArg},
		{"number below 0", claims("x -1 5 P"), api.ErrArg},
		{"too great a number", claims("x 501 5 P"), api.ErrArg},
		{"bid below 0", claims("x 1 -1 P"), api.ErrArg},
		{"too great a bid", claims("x 1 1000001 P"), api.ErrArg},
		{"player no key", claims("y 1 0 p", "x 1 0 P P"), api.ErrName},
		{"no player", []api.Claim{{Team: "x", No: 1}}, api.ErrName},
		{"player too long", claims("x 1 0 " + long), api.ErrName},
		{"drop no key", claims("y 1 0 p", "x 1 0 p P"), api.ErrName},
		{"drop too long", claims("x 1 0 p " + long), api.ErrName},
		{"the same", claims("y 1 0 p", "x 1 0 p p"), api.ErrTwice},
		{"twice", claims("x 1 5 p", "x 1 4 q"), api.ErrOrder},
		{"numbers fall", claims("x 2 5 p", "x 1 5 q"), api.ErrOrder},
		{"teams fall", claims("y 1 5 p", "x 2 5 p"), api.ErrOrder},
		{"in the order of purses", claims("y 1 5 p", "x 1 5 p"), api.ErrOrder},
		{"first one first", claims("x 2 5 p", "x 1 5 q", "z 1 5 p"), api.ErrOrder},
	} {
		equal(t, x.name, CheckClaims(r, p, x.c), x.want)
	}
	for _, n := range []int{math.MinInt, math.MaxInt} {
		equal(t, "number", CheckClaims(r, p, []api.Claim{{Team: "x", No: n, Player: "p"}}), api.ErrArg)
		equal(t, "bid", CheckClaims(r, p, []api.Claim{{Team: "x", No: 1, Bid: n, Player: "p"}}), api.ErrArg)
	}
}

// P5.3: CheckClaims asks nothing of rosters but whose they are.
func TestCheckClaimsAlone(t *testing.T) {
	r := []api.Roster{{Team: "y", Players: []string{"B", "A", "A"}}, {Team: "X", Hurt: keys(1000)}, {}}
	p := []api.Purse{{}, {Team: "X"}, {Team: "y"}}
	equal(t, "wrong rosters", CheckClaims(r, p, []api.Claim{{No: 1, Player: "p"}, {Team: "X", No: 1, Player: "p"}}), api.OK)
	equal(t, "wrong rosters, wrong purses", CheckClaims(r, p[1:], nil), api.ErrNone)
	many, left := manyRosters(1000, 0), []api.Purse{}
	for _, x := range many {
		left = append(left, api.Purse{Team: x.Team})
	}
	equal(t, "many", CheckClaims(many, left, nil), api.OK)
}

// P5.4: Settle.
func TestSettle(t *testing.T) {
	for _, x := range []struct {
		name                string
		rosters, purses     string
		claims              []string
		became, then, money string
	}{
		{"nothing", "x a", "x 5", nil, "", "x a", "x 5"},
		{"granted", "x b", "x 5", []string{"x 1 5 a"}, "x 1", "x a b", "x 0"},
		{"the example", "x,y", "x 10,y 10", []string{"x 1 5 p", "x 2 0 q", "y 1 5 p", "y 2 0 q"},
			"x 1, y 1 conflict, y 2, x 2 conflict", "x p, y q", "x 5,y 10"},
		{"the greatest bid first", "x,y", "x 10,y 10", []string{"x 1 5 p", "y 1 6 p"}, "y 1, x 1 conflict", "x, y p", "x 10,y 4"},
		{"the greatest bid of one's own first", "x", "x 10", []string{"x 1 2 p", "x 2 3 q", "x 3 1 r"}, "x 2, x 1, x 3 full", "x p q", "x 5"},
		{"then the least number", "x", "x 10", []string{"x 2 0 p", "x 3 0 q", "x 7 0 r"}, "x 2, x 3, x 7 full", "x p q", "x 10"},
		{"the order of purses, not of names", "x,y", "y 10,x 10", []string{"x 1 5 p", "y 9 5 p"}, "y 9, x 1 conflict", "x, y p", "x 10,y 5"},
		{"the order of purses, ahead of numbers", "x,y", "y 10,x 10", []string{"x 1 0 p", "y 9 0 p"}, "y 9, x 1 conflict", "x, y p", "x 10,y 10"},
		{"by turns", "x,y", "y 0,x 0", []string{"x 1 0 p", "x 2 0 q", "y 1 0 r", "y 2 0 s"}, "y 1, x 1, y 2, x 2", "x p q, y r s", "y 0,x 0"},
		{"to the end, over all", "x,y,z", "z 0,x 0,y 0", []string{"x 1 0 p", "y 1 0 q", "y 2 0 r", "z 1 0 s"}, "z 1, x 1, y 1, y 2", "x p, y q r, z s", "z 0,x 0,y 0"},
		{"who fails keeps the place", "x a,y", "x 0,y 0", []string{"x 1 0 a", "x 2 0 p", "y 1 0 p"}, "x 1 conflict, x 2, y 1 conflict", "x a p, y", "y 0,x 0"},
		{"for 0, but behind then", "x,y", "x 3,y 0", []string{"x 1 3 p", "x 2 0 q", "y 1 0 q"}, "x 1, y 1, x 2 conflict", "x p, y q", "x 0,y 0"},
		{"fails: Drop is not there", "x a", "x 5", []string{"x 1 6 a b"}, "x 1 none", "x a", "x 5"},
		{"fails: Drop is of another one", "x a,y b", "x 5,y 5", []string{"x 1 6 a b"}, "x 1 none", "x a, y b", "x 5,y 5"},
		{"fails: Drop is gone", "x a b", "x 5", []string{"x 1 0 p a", "x 2 0 q a"}, "x 1, x 2 none", "x b p", "x 5"},
		{"fails: Drop is gone, and Player had", "x a b,y c", "x 5,y 5", []string{"x 1 0 p a", "x 2 0 c a"}, "x 1, x 2 none", "x b p, y c", "y 5,x 5"},
		{"fails: another one has Player", "x a,y b c", "x 5,y 5", []string{"x 1 6 b"}, "x 1 conflict", "x a, y b c", "x 5,y 5"},
		{"fails: another one has Player among the hurt", "x a,y / b", "x 5,y 5", []string{"x 1 0 b"}, "x 1 conflict", "x a, y / b", "x 5,y 5"},
		{"fails: the own team has Player", "x a b", "x 5", []string{"x 1 6 a b"}, "x 1 conflict", "x a b", "x 5"},
		{"fails: the own team has Player among the hurt", "x / a", "x 5", []string{"x 1 0 a"}, "x 1 conflict", "x / a", "x 5"},
		{"fails: Player was dropped", "x a b,y c d", "x 5,y 5", []string{"x 1 1 p a", "y 1 6 a", "y 2 0 a c"}, "y 1 conflict, x 1, y 2 state", "x b p, y c d", "y 5,x 4"},
		{"fails: Player was dropped, too great a bid", "x a b,y", "x 5,y 1", []string{"x 1 5 p a", "y 1 2 a"}, "x 1, y 1 state", "x b p, y", "y 1,x 0"},
		{"fails: Player was dropped by oneself", "x a b", "x 5", []string{"x 1 1 p a", "x 2 0 a p"}, "x 1, x 2 state", "x b p", "x 4"},
		{"fails: Player was dropped, hurt", "x a / b,y", "x 5,y 5", []string{"x 1 1 p b", "y 1 0 b"}, "x 1, y 1 state", "x a p, y", "y 5,x 4"},
		{"fails: a bid too great", "x a b", "x 5", []string{"x 1 6 p"}, "x 1 rule", "x a b", "x 5"},
		{"fails: a bid too great then", "x", "x 5", []string{"x 1 3 p", "x 2 3 q", "x 3 2 r"}, "x 1, x 2 rule, x 3", "x p r", "x 0"},
		{"fails: full", "x a b", "x 5", []string{"x 1 5 p"}, "x 1 full", "x a b", "x 5"},
		{"fails: full, though a hurt one goes", "x a b / c", "x 5", []string{"x 1 5 p c"}, "x 1 full", "x a b / c", "x 5"},
		{"full, but for Drop", "x a b / c", "x 5", []string{"x 1 5 p a"}, "x 1", "x b p / c", "x 0"},
		{"a hurt one goes", "x a / c", "x 5", []string{"x 1 5 p c"}, "x 1", "x a p", "x 0"},
		{"hurt ones take no place", "x a / c", "x 5", []string{"x 1 5 p"}, "x 1", "x a p / c", "x 0"},
		{"a failed claim drops nobody", "x a b,y", "x 1,y 0", []string{"x 1 2 p a", "y 1 0 p", "y 2 0 a"}, "x 1 rule, y 1, y 2 conflict", "x a b, y p", "x 1,y 0"},
	} {
		r, p := rosters(strings.Split(x.rosters, ",")...), purses(strings.Split(x.purses, ",")...)
		settled, then, left, e := Settle(bounds(), r, p, claims(x.claims...))
		equal(t, x.name, e, api.OK)
		equal(t, x.name, became(settled), x.became)
		equal(t, x.name+": rosters", shown(then...), x.then)
		list(t, x.name+": purses", left, purses(strings.Split(x.money, ",")...))
	}
}

// P5.4: errors of Settle.
func TestSettleErrors(t *testing.T) {
	r, p, c := rosters("x a", "y b"), purses("x 1", "y 1"), claims("x 1 1 p")
	for _, x := range []struct {
		name string
		b    api.Bounds
		r    []api.Roster
		p    []api.Purse
		c    []api.Claim
		want api.Errno
	}{
		{"bounds", api.Bounds{}, rosters("y", "x"), nil, nil, api.ErrArg},
		{"rosters", bounds(), rosters("x", "x"), purses("z 1"), nil, api.ErrOrder},
		{"somebody twice", bounds(), rosters("x a", "y a"), nil, nil, api.ErrTwice},
		{"purses", bounds(), r, p[1:], claims("x 0 1 p"), api.ErrNone},
		{"purse too great", bounds(), r, purses("x 1", "y 1000001"), make([]api.Claim, api.MaxClaims+1), api.ErrArg},
		{"too many claims", bounds(), r, p, make([]api.Claim, api.MaxClaims+1), api.ErrLarge},
		{"claims", bounds(), r, p, append(c, c...), api.ErrOrder},
	} {
		settled, then, left, e := Settle(x.b, x.r, x.p, x.c)
		equal(t, x.name, e, x.want)
		equal(t, x.name, len(settled)+len(then)+len(left), 0)
	}
}

// anyClaims makes rosters, purses and claims at random with which nothing is wrong.
func anyClaims(random *rand.Rand) (api.Bounds, []api.Roster, []api.Purse, []api.Claim) {
	b := api.Bounds{Most: 1 + random.IntN(4), Hurt: random.IntN(3)}
	players := strings.Fields("a b c d e f g h i j")
	random.Shuffle(len(players), func(i, j int) { players[i], players[j] = players[j], players[i] })
	var r []api.Roster
	var p []api.Purse
	var c []api.Claim
	rest := players
	some := func(most int) []string {
		many := min(random.IntN(most+1), len(rest))
		own := slices.Sorted(slices.Values(rest[:many]))
		rest = rest[many:]
		return own
	}
	for _, team := range strings.Fields("w x y z")[:1+random.IntN(4)] {
		x := api.Roster{Team: team, Players: some(b.Most), Hurt: some(b.Hurt)}
		r, p = append(r, x), append(p, api.Purse{Team: team, Left: random.IntN(6)})
		for no := 1; no < 9; no++ {
			y := api.Claim{Team: team, No: no, Bid: random.IntN(4), Player: players[random.IntN(10)]}
			if own := slices.Concat(x.Players, x.Hurt); random.IntN(3) > 0 && len(own) > 0 {
				y.Drop = own[random.IntN(len(own))]
			}
			if random.IntN(9) == 0 {
				y.Drop = players[random.IntN(10)]
			}
			if random.IntN(3) > 0 && y.Player != y.Drop {
				c = append(c, y)
			}
		}
	}
	random.Shuffle(len(p), func(i, j int) { p[i], p[j] = p[j], p[i] })
	return b, r, p, c
}

// desk settles claims as somebody would by hand.
type desk struct {
	most  int
	where map[string]string // of each player the team, with a stroke behind for those who are hurt
	money map[string]int
	order []string
	gone  []string
}

func (d *desk) next(c []api.Claim) api.Claim {
	for bid := 10; ; bid-- {
		for _, team := range d.order {
			for _, x := range c {
				if x.Bid == bid && x.Team == team {
					return x
				}
			}
		}
	}
}

func (d *desk) settle(x api.Claim) api.Errno {
	many := 0
	for player, where := range d.where {
		if where == x.Team && player != x.Drop {
			many++
		}
	}
	switch {
	case x.Drop != "" && strings.TrimSuffix(d.where[x.Drop], "/") != x.Team:
		return api.ErrNone
	case d.where[x.Player] != "":
		return api.ErrConflict
	case slices.Contains(d.gone, x.Player):
		return api.ErrState
	case x.Bid > d.money[x.Team]:
		return api.ErrRule
	case many >= d.most:
		return api.ErrFull
	}
	if x.Drop != "" {
		delete(d.where, x.Drop)
		d.gone = append(d.gone, x.Drop)
	}
	d.where[x.Player] = x.Team
	d.money[x.Team] -= x.Bid
	place := slices.Index(d.order, x.Team)
	d.order = append(slices.Delete(d.order, place, place+1), x.Team)
	return api.OK
}

// rosters returns who is where then, by team.
func (d *desk) rosters() []api.Roster {
	var r []api.Roster
	for _, team := range slices.Sorted(slices.Values(d.order)) {
		x := api.Roster{Team: team}
		for _, player := range slices.Sorted(maps.Keys(d.where)) {
			switch d.where[player] {
			case team:
				x.Players = append(x.Players, player)
			case team + "/":
				x.Hurt = append(x.Hurt, player)
			}
		}
		r = append(r, x)
	}
	return r
}

// P5.4: Settle against a plain model; what follows: nobody is in two rosters, and no purse is below 0.
func TestSettlePlainly(t *testing.T) {
	random := rand.New(rand.NewPCG(54, 1))
	seen := map[api.Errno]int{}
	for range 1000 {
		b, r, p, c := anyClaims(random)
		equal(t, "CheckClaims", CheckClaims(r, p, c), api.OK)
		d := &desk{most: b.Most, where: map[string]string{}, money: map[string]int{}}
		for _, x := range r {
			for _, player := range x.Players {
				d.where[player] = x.Team
			}
			for _, player := range x.Hurt {
				d.where[player] = x.Team + "/"
			}
		}
		for _, x := range p {
			d.order, d.money[x.Team] = append(d.order, x.Team), x.Left
		}
		var want []api.Settled
		for left := slices.Clone(c); len(left) > 0; {
			x := d.next(left)
			left = slices.DeleteFunc(left, func(y api.Claim) bool { return x == y })
			why := d.settle(x)
			seen[why]++
			want = append(want, api.Settled{Team: x.Team, No: x.No, Why: why})
		}
		settled, then, purses, e := Settle(b, r, p, c)
		equal(t, "Settle", e, api.OK)
		list(t, "Settle", settled, want)
		equal(t, "rosters", shown(then...), shown(d.rosters()...))
		equal(t, "rosters then", CheckRosters(b, then), api.OK)
		equal(t, "purses then", CheckClaims(then, purses, nil), api.OK)
		for i, team := range d.order {
			equal(t, "purses", purses[i], api.Purse{Team: team, Left: d.money[team]})
		}
	}
	for _, why := range []api.Errno{api.OK, api.ErrNone, api.ErrConflict, api.ErrState, api.ErrRule, api.ErrFull} {
		if seen[why] < 50 {
			t.Errorf("only %d claims with %d", seen[why], why)
		}
	}
}

// P5.4: as many claims, teams and players as there can be.
func TestSettleMost(t *testing.T) {
	r := manyRosters(api.MaxTeams, api.MaxRoster)
	var p []api.Purse
	var c []api.Claim
	for _, x := range r {
		p = append(p, api.Purse{Team: x.Team, Left: api.MaxPurse})
		for no := range api.MaxClaims / api.MaxTeams {
			y := api.Claim{Team: x.Team, No: 1 + no, Bid: api.MaxPurse / api.MaxRoster, Player: fmt.Sprintf("p%d", no)}
			y.Drop = x.Players[no%api.MaxRoster]
			c = append(c, y)
		}
	}
	settled, then, left, e := Settle(widest(), r, p, c)
	equal(t, "Settle", e, api.OK)
	equal(t, "claims", len(settled), api.MaxClaims)
	equal(t, "rosters", CheckRosters(widest(), then), api.OK)
	paid := 0
	for _, x := range left {
		paid += api.MaxPurse - x.Left
	}
	granted := 0
	for _, x := range settled {
		if x.Why == api.OK {
			granted++
		}
	}
	equal(t, "a claim for each player is granted", granted, api.MaxClaims/api.MaxTeams)
	equal(t, "what was paid", paid, granted*api.MaxPurse/api.MaxRoster)
}
