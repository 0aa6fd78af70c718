package trade

import (
	"math/rand/v2"
	"slices"
	"strings"
	"testing"

	"benchwarmer/api"
)

// ringed writes rings: players with blanks between, commas between rings.
func ringed(l [][]string) string {
	var all []string
	for _, x := range l {
		all = append(all, strings.Join(x, " "))
	}
	return strings.Join(all, ", ")
}

// P6.4: CheckWants.
func TestCheckWants(t *testing.T) {
	for _, x := range []struct {
		name string
		w    []api.Wants
		want api.Errno
	}{
		{"none", nil, api.OK},
		{"ordinary", wants("p q r", "q p", "s"), api.OK},
		{"nobody for them", wants("p", "q"), api.OK},
		{"For is not in order", wants("p s r q"), api.OK},
		{"For is not in wants", wants("q p"), api.OK},
		{"nobody has the player", wants("q p", "eve x x p"), api.ErrNone},
		{"a team is no player", wants("a"), api.ErrNone},
		{"no player", []api.Wants{{}}, api.ErrNone},
		{"player twice", wants("q p", "q x"), api.ErrOrder},
		{"players fall", wants("q p", "p x"), api.ErrOrder},
		{"nobody has one of For", wants("p q eve q t"), api.ErrNone},
		{"one of For twice", wants("p q r q t"), api.ErrTwice},
		{"of the same team", wants("p q t q"), api.ErrRule},
		{"of the same team twice", wants("t q p p"), api.ErrRule},
		{"oneself", wants("p q p"), api.ErrRule},
		{"first one first", wants("p t", "p eve"), api.ErrRule},
	} {
		equal(t, x.name, CheckWants(market(), owners("p:a q:b r:c s:d t:a"), x.w), x.want)
	}
	equal(t, "market first", CheckWants(api.Market{}, owners("q:a p:a"), wants("eve")), api.ErrNone)
	equal(t, "owners first", CheckWants(market(), owners("q:a p:a"), wants("eve")), api.ErrOrder)
	m, o := widest(), manyOwners(api.MaxPlayers)
	equal(t, "most", CheckWants(m, o, manyWants(api.MaxPlayers, 20)), api.OK)
	equal(t, "too many For", CheckWants(m, o, manyWants(1, 21)), api.ErrLarge)
	wrong := manyWants(1, 21)
	wrong[0].For[0] = "eve"
	equal(t, "too many For, and wrong", CheckWants(m, o, wrong), api.ErrLarge)
	equal(t, "too many", CheckWants(m, o, make([]api.Wants, api.MaxPlayers+1)), api.ErrLarge)
}

// manyWants makes wants of so many players of manyOwners, each for so many others: for those behind itself, without its own team.
func manyWants(many, wide int) []api.Wants {
	var w []api.Wants
	for i := range many {
		x := api.Wants{Player: key(i)}
		for j := 1; len(x.For) < wide; j++ {
			if j%api.MaxTeams != 0 {
				x.For = append(x.For, key((i+j)%api.MaxPlayers))
			}
		}
		w = append(w, x)
	}
	return w
}

// P6.4: Rings.
func TestRings(t *testing.T) {
	for _, x := range []struct {
		name string
		w    []api.Wants
		want string
	}{
		{"none", nil, ""},
		{"nobody points", wants("p", "q"), ""},
		{"one who is not in wants", wants("p q"), ""},
		{"two", wants("p q", "q p"), "p q"},
		{"three", wants("p q", "q r", "r p"), "p q r"},
		{"three the other way round", wants("p r", "q p", "r q"), "p r q"},
		{"two players of one team", wants("p q", "q t", "r p", "t r"), "p q t r"},
		{"two rings, the least player first", wants("p s", "q r", "r q", "s p"), "p s, q r"},
		{"the first one counts", wants("p q r", "q p", "r p"), "p q"},
		{"not in wants, so the next one", wants("p s q", "q p"), "p q"},
		{"who points to nobody is gone", wants("p r q", "q p", "r"), "p q"},
		{"gone one after the other", wants("p q s", "q r", "r", "s p"), "p s"},
		{"no ring is left", wants("p q", "q r", "r"), ""},
		{"they point anew", wants("p q r", "q s", "r p", "s q"), "q s, p r"},
		{"a ring that comes later has the least player", wants("p q r", "q r", "r q p", "s r"), "q r"},
		{"gone behind a ring", wants("p q", "q r", "r q"), "q r"},
		{"a new ring has a lesser player than one that was there", wants("p q u", "q r", "r q", "s t", "t s", "u p"), "q r, p u, s t"},
		{"who is gone at first changes which rings there are", wants("p v q", "q p", "r s", "s r", "v"), "p q, r s"},
		{"gone at last", wants("p q r", "q r", "r q"), "q r"},
		{"the example of the tests", wants("p q r", "q r p", "r q"), "q r"},
	} {
		o := owners("p:a q:b r:c s:d t:a u:b v:d")
		rings, e := Rings(market(), o, x.w)
		equal(t, x.name, e, api.OK)
		equal(t, x.name, ringed(rings), x.want)
	}
}

// P6.4: errors of Rings and Most.
func TestRingsErrors(t *testing.T) {
	for _, x := range []struct {
		name string
		m    api.Market
		o    []api.Owner
		w    []api.Wants
		want api.Errno
	}{
		{"market", api.Market{}, owners("q:a p:a"), wants("p x"), api.ErrNone},
		{"owners", market(), owners("q:a p:a"), wants("p x"), api.ErrOrder},
		{"wants", market(), owners("p:a q:a"), wants("p q"), api.ErrRule},
		{"fifteen, and wrong", widest(), manyOwners(50), append(manyWants(14, 1), wants("x")...), api.ErrNone},
	} {
		rings, e := Rings(x.m, x.o, x.w)
		equal(t, x.name, e, x.want)
		equal(t, x.name, len(rings), 0)
		gives, e := Most(x.m, x.o, x.w)
		equal(t, x.name, e, x.want)
		list(t, x.name, gives, nil)
	}
}

// rest is players who are not gone yet, with whom they would like.
type rest map[string][]string

// points returns to whom a player points.
func (r rest) points(player string) string {
	for _, other := range r[player] {
		if _, there := r[other]; there {
			return other
		}
	}
	return ""
}

// ring returns the ring of a player, from it on; nil if it is in none.
func (r rest) ring(player string) []string {
	ring := []string{player}
	for {
		next := r.points(ring[len(ring)-1])
		if next == player {
			return ring
		}
		if next == "" || slices.Contains(ring, next) {
			return nil
		}
		ring = append(ring, next)
	}
}

// prune lets go those who point to nobody.
func (r rest) prune() {
	for range len(r) {
		var lost []string
		for player := range r {
			if r.points(player) == "" {
				lost = append(lost, player)
			}
		}
		for _, player := range lost {
			delete(r, player)
		}
	}
}

// P6.4: Rings against a plain model; what follows: doing all rings at once is a trade that can be done.
func TestRingsPlainly(t *testing.T) {
	random := rand.New(rand.NewPCG(64, 1))
	many := 0
	for range 500 {
		m, o := anyMarket(random)
		w := anyWants(random, o)
		r := rest{}
		for _, x := range w {
			r[x.Player] = x.For
		}
		var want [][]string
		x := api.Offer{Id: "x", Time: api.Window{To: 1}}
		for r.prune(); len(r) > 0; r.prune() {
			for _, y := range w {
				if _, there := r[y.Player]; !there {
					continue
				}
				if ring := r.ring(y.Player); ring != nil {
					want = append(want, ring)
					break
				}
			}
			for _, player := range want[len(want)-1] {
				delete(r, player)
			}
		}
		got, e := Rings(m, o, w)
		equal(t, "Rings", e, api.OK)
		equal(t, "Rings", ringed(got), ringed(want))
		team := func(player string) string {
			return o[slices.IndexFunc(o, func(y api.Owner) bool { return y.Player == player })].Team
		}
		for _, ring := range got {
			for i, player := range ring {
				other := ring[(i+1)%len(ring)]
				x.By = team(player)
				x.Gives = append(x.Gives, api.Give{Player: other, From: team(other), To: team(player)})
			}
		}
		if len(got) == 0 {
			continue
		}
		many += len(got)
		slices.SortFunc(x.Gives, func(x, y api.Give) int { return strings.Compare(x.Player, y.Player) })
		can, e := Can(m, o, x)
		equal(t, "Can", e, api.OK)
		equal(t, "Can", can, true)
	}
	if many < 300 {
		t.Errorf("only %d rings", many)
	}
}

// P6.4: as many wants as there can be.
func TestRingsMost(t *testing.T) {
	m, o := widest(), manyOwners(api.MaxPlayers)
	w := manyWants(api.MaxPlayers, maxFor)
	rings, e := Rings(m, o, w)
	equal(t, "Rings", e, api.OK)
	equal(t, "one ring of all", len(rings), 1)
	list(t, "one ring of all", rings[0], keys(api.MaxPlayers))

	// All would like the first player most, then the second one, and so on: each ring is short, and all others point anew.
	for i := range w {
		w[i].For = nil
		for j := max(0, i-1); j < len(w) && len(w[i].For) < maxFor; j++ {
			if j%api.MaxTeams != i%api.MaxTeams {
				w[i].For = append(w[i].For, key(j))
			}
		}
	}
	rings, e = Rings(m, o, w)
	equal(t, "Rings", e, api.OK)
	equal(t, "rings of two", len(rings), api.MaxPlayers/2)

	// A chain at whose end there is nobody: all are gone one after the other.
	for i := range w {
		w[i].For = keys(i + 2)[i+1:]
	}
	w[len(w)-1].For = nil
	rings, e = Rings(m, o, w)
	equal(t, "Rings", e, api.OK)
	equal(t, "no rings", len(rings), 0)
}
