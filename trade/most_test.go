package trade

import (
	"math/rand/v2"
	"slices"
	"strings"
	"testing"

	"benchwarmer/api"
)

// given writes gives in the form of giveOf, with blanks between.
func given(l []api.Give) string {
	var all []string
	for _, g := range l {
		all = append(all, g.Player+":"+g.From+":"+g.To)
	}
	return strings.Join(all, " ")
}

// P6.4: Most.
func TestMost(t *testing.T) {
	for _, x := range []struct {
		name string
		w    []api.Wants
		want string
	}{
		{"none", nil, ""},
		{"nobody can go", wants("p", "q"), ""},
		{"one who is not in wants", wants("p q"), ""},
		{"one who stays", wants("p q", "q"), ""},
		{"two", wants("p q", "q p"), "p:a:b q:b:a"},
		{"three", wants("p q", "q r", "r p"), "p:a:c q:b:a r:c:b"},
		{"the document's", wants("p q r", "q r p", "r q"), "p:a:b q:b:c r:c:a"},
		{"two pairs", wants("p s", "q r", "r q", "s p"), "p:a:d q:b:c r:c:b s:d:a"},
		{"as many as possible, not what is wanted most", wants("p q r", "q p", "r s", "s p"), "p:a:d r:c:a s:d:c"},
		{"two players of one team", wants("p q", "q t", "r p", "t r"), "p:a:c q:b:a r:c:a t:a:b"},
		{"the first one stays", wants("p q", "q p r", "r q"), "q:b:c r:c:b"},
		{"the first one stays, of three pairs", wants("p r s", "q r s", "r p q", "s p q"), "p:a:c q:b:d r:c:a s:d:b"},
		{"the first one who is not in both", wants("p q", "q p r", "r q s", "s r"), "p:a:b q:b:a r:c:d s:d:c"},
		{"the first one, not the most of the others", wants("p q r s", "q p", "r p", "s p"), "p:a:d s:d:a"},
		{"who stands earlier", wants("p r s", "q s r", "r p q", "s q p"), "p:a:c q:b:d r:c:a s:d:b"},
		{"who stands earlier for the first one", wants("p s r", "q s r", "r p q", "s p q"), "p:a:c q:b:d r:c:b s:d:a"},
		{"others of For are not in wants", wants("p u s", "s v p"), "p:a:d s:d:a"},
	} {
		o := owners("p:a q:b r:c s:d t:a u:b v:c")
		gives, e := Most(market(), o, x.w)
		equal(t, x.name, e, api.OK)
		equal(t, x.name, given(gives), x.want)
	}
}

// plainTrade is a trade of wants, by trying all of them.
type plainTrade struct {
	got   []int // of each player the number in For of the one whom it gets; -1: it stays
	going int
}

// better says whether a trade comes before another one.
func (x plainTrade) better(y plainTrade) bool {
	if x.going != y.going {
		return x.going > y.going
	}
	for i := range x.got {
		if stays := x.got[i] < 0; stays != (y.got[i] < 0) {
			return stays
		}
	}
	return slices.Compare(x.got, y.got) < 0
}

// allTrades calls take with each trade.
func allTrades(w []api.Wants, take func(x plainTrade)) {
	number := map[string]int{}
	for i, x := range w {
		number[x.Player] = i
	}
	got := make([]int, len(w))
	isGot := make([]bool, len(w))
	var try func(i int)
	try = func(i int) {
		if i == len(w) {
			x := plainTrade{got: slices.Clone(got)}
			for j := range w {
				if isGot[j] != (got[j] >= 0) {
					return
				}
				if isGot[j] {
					x.going++
				}
			}
			take(x)
			return
		}
		got[i] = -1
		try(i + 1)
		for k, player := range w[i].For {
			if j, there := number[player]; there && !isGot[j] {
				got[i], isGot[j] = k, true
				try(i + 1)
				isGot[j] = false
			}
		}
		got[i] = -1
	}
	try(0)
}

// P6.4: Most against all trades; what follows: it can be done.
func TestMostPlainly(t *testing.T) {
	random := rand.New(rand.NewPCG(64, 2))
	sizes := map[int]int{}
	for range 600 {
		m, o := anyMarket(random)
		w := anyWants(random, o)
		best := plainTrade{going: -1}
		allTrades(w, func(x plainTrade) {
			if x.better(best) {
				best = x
			}
		})
		team := func(player string) string {
			return o[slices.IndexFunc(o, func(y api.Owner) bool { return y.Player == player })].Team
		}
		var want []api.Give
		for i, k := range best.got {
			if k >= 0 {
				player := w[i].For[k]
				want = append(want, api.Give{Player: player, From: team(player), To: team(w[i].Player)})
			}
		}
		slices.SortFunc(want, func(x, y api.Give) int { return strings.Compare(x.Player, y.Player) })
		got, e := Most(m, o, w)
		equal(t, "Most", e, api.OK)
		equal(t, "Most", given(got), given(want))
		sizes[len(got)]++
		if len(got) == 0 {
			continue
		}
		can, e := Can(m, o, api.Offer{Id: "x", By: got[0].From, Time: api.Window{To: 1}, Gives: got})
		equal(t, "Can", e, api.OK)
		equal(t, "Can", can, true)
	}
	for size := 2; size < 6; size++ {
		if sizes[size] < 20 {
			t.Errorf("only %d trades of %d", sizes[size], size)
		}
	}
}

// P6.4: as many wants as Most takes.
func TestMostMost(t *testing.T) {
	m, o := widest(), manyOwners(api.MaxPlayers)
	w := manyWants(maxMost, maxFor)
	for i := range w {
		w[i].For = nil
		for j := range w {
			if i != j {
				w[i].For = append(w[i].For, key(j))
			}
		}
	}
	gives, e := Most(m, o, w)
	equal(t, "Most", e, api.OK)
	equal(t, "all go", len(gives), maxMost)
	for i, g := range gives {
		// Each one gets the first other one who is left: 0 and 1 each other, 2 and 3, and so on.
		equal(t, "give", g, api.Give{Player: key(i), From: key(i), To: key(i ^ 1)})
	}
	for many, want := range map[int]api.Errno{14: api.OK, 15: api.ErrLarge, api.MaxPlayers: api.ErrLarge} {
		gives, e := Most(m, o, manyWants(many, 1))
		equal(t, "Most", e, want)
		list(t, "nobody comes back to the first one", gives, nil)
	}
}
