package trade

import (
	"math/rand/v2"
	"strings"
	"testing"

	"benchwarmer/api"
)

// paired writes pairs: the two Ids with a colon between, blanks between pairs.
func paired(l []api.Pair) string {
	var all []string
	for _, x := range l {
		all = append(all, x.Name+":"+x.Value)
	}
	return strings.Join(all, " ")
}

// P6.3: Clash.
func TestClash(t *testing.T) {
	for _, x := range []struct {
		name   string
		m      api.Market
		offers []string
		want   string
	}{
		{"none", market(), nil, ""},
		{"one", market(), []string{"i a 0 9 p:a:b"}, ""},
		{"of other players", market(), []string{"i a 0 9 p:a:b", "j b 0 9 r:b:a"}, ""},
		{"one player to two teams", market(), []string{"i a 0 9 p:a:b", "j a 0 9 p:a:c"}, "i:j"},
		{"one player to one team", market(), []string{"i a 0 9 p:a:b", "j a 0 9 p:a:b"}, "i:j"},
		{"one player among others", market(), []string{"i a 0 9 p:a:b r:b:a", "j a 0 9 p:a:c s:c:a"}, "i:j"},
		{"at other times", market(), []string{"i a 0 9 p:a:b", "j a 20 90 p:a:c"}, "i:j"},
		{"all three", market(), []string{"i a 0 9 p:a:b", "j a 0 9 p:a:c", "k a 0 9 p:a:d"}, "i:j i:k j:k"},
		{"the first of all others", market(), []string{"i a 0 9 p:a:b q:a:b", "j a 0 9 p:a:c", "k a 0 9 q:a:d"}, "i:j i:k"},
		{"the last of all others", market(), []string{"i a 0 9 p:a:c", "j a 0 9 q:a:d", "k a 0 9 p:a:b q:a:b"}, "i:k j:k"},
		{"just one behind the other", market(), []string{"i b 0 9 p:b:c", "j a 0 9 p:a:b"}, ""},
		{"one can't be done alone", market(), []string{"i a 0 9 p:a:b", "j c 0 9 p:c:b"}, ""},
		{"neither can be done alone", market(), []string{"i b 0 9 p:b:c", "j c 0 9 p:c:d"}, ""},
		{"room for both", sized(0, 4), []string{"i a 0 9 p:a:d", "j a 0 9 q:a:d"}, ""},
		{"room for one", market(), []string{"i a 0 9 p:a:d", "j a 0 9 q:a:d"}, "i:j"},
		{"room for one, but another goes", market(), []string{"i a 0 9 p:a:d", "j a 0 9 q:a:d t:d:a"}, ""},
		{"room for none", sized(0, 2), []string{"i a 0 9 p:a:d", "j a 0 9 q:a:d"}, ""},
		{"enough but for both", sized(1, 4), []string{"i a 0 9 p:a:b", "j a 0 9 q:a:c"}, "i:j"},
		{"enough for both", sized(0, 4), []string{"i a 0 9 p:a:b", "j a 0 9 q:a:c"}, ""},
		{"too few for one alone", sized(2, 4), []string{"i a 0 9 p:a:b", "j a 0 9 q:a:c"}, ""},
	} {
		o := owners("p:a q:a r:b s:c t:d u:d")
		if x.m.Least == 2 {
			o = owners("p:a q:a r:b s:c t:d u:d v:b w:c")
		}
		l, e := Clash(x.m, o, offers(x.offers...))
		equal(t, x.name, e, api.OK)
		equal(t, x.name, paired(l), x.want)
	}
}

// P6.3: errors of Clash.
func TestClashErrors(t *testing.T) {
	for _, x := range []struct {
		name string
		m    api.Market
		o    []api.Owner
		l    []api.Offer
		want api.Errno
	}{
		{"market", api.Market{}, owners("q:a p:a"), offers("O a 0 9"), api.ErrNone},
		{"owners", market(), owners("q:a p:a"), offers("O a 0 9"), api.ErrOrder},
		{"too few of a team", sized(1, 3), owners("p:a"), nil, api.ErrFull},
		{"offers", market(), owners("p:a q:a"), offers("O a 0 9"), api.ErrName},
		{"too many offers", market(), nil, make([]api.Offer, api.MaxOffers+1), api.ErrLarge},
	} {
		l, e := Clash(x.m, x.o, x.l)
		equal(t, x.name, e, x.want)
		list(t, x.name, l, nil)
	}
}

// P6.3: Clash as Can and Did tell it.
func TestClashPlainly(t *testing.T) {
	random := rand.New(rand.NewPCG(63, 1))
	clashes, others := 0, 0
	for range 400 {
		m, o := anyMarket(random)
		l := anyOffers(random, o)
		both := func(x, y api.Offer) bool {
			then, e := Did(m, o, x)
			if e != api.OK {
				return false
			}
			can, _ := Can(m, then, y)
			return can
		}
		var want []api.Pair
		for i, x := range l {
			for _, y := range l[i+1:] {
				one, _ := Can(m, o, x)
				other, _ := Can(m, o, y)
				if !one || !other {
					continue
				}
				if both(x, y) || both(y, x) {
					others++
					continue
				}
				want = append(want, api.Pair{Name: x.Id, Value: y.Id})
				clashes++
			}
		}
		got, e := Clash(m, o, l)
		equal(t, "Clash", e, api.OK)
		equal(t, "Clash", paired(got), paired(want))
	}
	if clashes < 50 || others < 50 {
		t.Errorf("only %d clash, and %d don't", clashes, others)
	}
}

// P6.3: as many offers as there can be.
func TestClashMost(t *testing.T) {
	l := manyOffers(api.MaxOffers, api.MaxGives)
	pairs, e := Clash(widest(), manyOwners(api.MaxPlayers), l)
	equal(t, "Clash", e, api.OK)
	equal(t, "all pairs", len(pairs), api.MaxOffers*(api.MaxOffers-1)/2)
	for i := range l {
		l[i].Gives = []api.Give{{Player: key(i), From: key(i % api.MaxTeams), To: key((i + 1) % api.MaxTeams)}}
		l[i].By = l[i].Gives[0].To
	}
	pairs, e = Clash(widest(), manyOwners(api.MaxPlayers), l)
	equal(t, "Clash", e, api.OK)
	equal(t, "no pairs", len(pairs), 0)
}
