package trade

import (
	"math"
	"math/rand/v2"
	"slices"
	"strings"
	"testing"

	"benchwarmer/api"
)

// P6.1: CheckMarket.
func TestCheckMarket(t *testing.T) {
	long := key(0) + "k"
	for _, x := range []struct {
		name  string
		spoil func(m *api.Market)
		want  api.Errno
	}{
		{"ordinary", func(m *api.Market) {}, api.OK},
		{"least", func(m *api.Market) { *m = api.Market{Teams: []string{"a"}, Vetoes: 1} }, api.OK},
		{"greatest", func(m *api.Market) { *m = widest() }, api.OK},
		{"just so many players", func(m *api.Market) { m.Least, m.Most = api.MaxHave, api.MaxHave }, api.OK},
		{"more vetoes than teams", func(m *api.Market) { m.Vetoes = 5 }, api.OK},
		{"nothing", func(m *api.Market) { *m = api.Market{} }, api.ErrNone},
		{"no teams", func(m *api.Market) { m.Teams, m.Vetoes = nil, 0 }, api.ErrNone},
		{"too many teams", func(m *api.Market) { m.Teams = keys(api.MaxTeams + 1) }, api.ErrLarge},
		{"too many teams, and wrong", func(m *api.Market) { m.Teams, m.Vetoes = make([]string, api.MaxTeams+1), 0 }, api.ErrLarge},
		{"no key", func(m *api.Market) { m.Teams, m.Vetoes = strings.Fields("b A a"), 0 }, api.ErrName},
		{"empty name", func(m *api.Market) { m.Teams = []string{""} }, api.ErrName},
		{"too long", func(m *api.Market) { m.Teams = []string{"a", long} }, api.ErrName},
		{"twice", func(m *api.Market) { m.Teams, m.Vetoes = strings.Fields("a a B"), 0 }, api.ErrOrder},
		{"teams fall", func(m *api.Market) { m.Teams = strings.Fields("b a") }, api.ErrOrder},
		{"no vetoes", func(m *api.Market) { m.Vetoes = 0 }, api.ErrArg},
		{"too many vetoes", func(m *api.Market) { m.Vetoes = api.MaxTeams + 1 }, api.ErrArg},
		{"wait below 0", func(m *api.Market) { m.Wait = -1 }, api.ErrArg},
		{"longest wait", func(m *api.Market) { m.Wait = 864_000_000 }, api.OK},
		{"too long a wait", func(m *api.Market) { m.Wait = 864_000_001 }, api.ErrArg},
		{"deadline at once", func(m *api.Market) { m.Deadline = 0 }, api.OK},
		{"deadline below 0", func(m *api.Market) { m.Deadline = -1 }, api.ErrArg},
		{"deadline too late", func(m *api.Market) { m.Deadline = api.End + 1 }, api.ErrArg},
		{"least below 0", func(m *api.Market) { m.Least = -1 }, api.ErrArg},
		{"least above most", func(m *api.Market) { m.Least = 4 }, api.ErrArg},
		{"most below 0", func(m *api.Market) { m.Least, m.Most = -2, -1 }, api.ErrArg},
		{"most too great", func(m *api.Market) { m.Most = api.MaxHave + 1 }, api.ErrArg},
	} {
		m := market()
		x.spoil(&m)
		equal(t, x.name, CheckMarket(m), x.want)
	}
	for _, n := range []int{math.MinInt, math.MaxInt} {
		for field := range 5 {
			m := market()
			*[]*int{&m.Vetoes, &m.Wait, &m.Deadline, &m.Least, &m.Most}[field] = n
			equal(t, "extreme", CheckMarket(m), api.ErrArg)
		}
	}
}

// P6.1: CheckOwners.
func TestCheckOwners(t *testing.T) {
	long := key(0) + "k"
	for _, x := range []struct {
		name string
		m    api.Market
		o    string
		want api.Errno
	}{
		{"nobody", market(), "", api.OK},
		{"ordinary", market(), "p:b q:a r:b s:d", api.OK},
		{"players of the names of teams", market(), "a:b b:a", api.OK},
		{"longest name", market(), key(0) + ":a", api.OK},
		{"no key", market(), "q:a P:e p:b", api.ErrName},
		{"no name", market(), ":a", api.ErrName},
		{"too long", market(), long + ":a", api.ErrName},
		{"no such team", market(), "q:a p:e", api.ErrNone},
		{"no team", market(), "q:", api.ErrNone},
		{"player twice", market(), "p:a p:b", api.ErrOrder},
		{"players fall", market(), "q:a p:a", api.ErrOrder},
		{"first one first", market(), "p:a p:a P:e", api.ErrOrder},
		{"as many as can be", market(), "p:a q:a r:a s:b", api.OK},
		{"too many", market(), "p:a q:a r:a s:b t:a", api.ErrFull},
		{"too many, and then wrong", market(), "p:a q:a r:a s:a t:e", api.ErrNone},
		{"just enough", sized(1, 2), "p:a q:b r:c s:d t:a", api.OK},
		{"too few", sized(2, 2), "p:a q:b r:c s:d t:a u:b v:c", api.ErrFull},
		{"a team with nobody", sized(1, 3), "p:a q:b r:c", api.ErrFull},
		{"nobody, though there must be", sized(1, 3), "", api.ErrFull},
		{"nobody can be", sized(0, 0), "", api.OK},
		{"none can be", sized(0, 0), "p:d", api.ErrFull},
	} {
		equal(t, x.name, CheckOwners(x.m, owners(x.o)), x.want)
	}
	equal(t, "most", CheckOwners(widest(), manyOwners(api.MaxPlayers)), api.OK)
	equal(t, "too many", CheckOwners(widest(), manyOwners(api.MaxPlayers+1)), api.ErrLarge)
	equal(t, "too many, and wrong", CheckOwners(widest(), make([]api.Owner, api.MaxPlayers+1)), api.ErrLarge)
	equal(t, "market first", CheckOwners(api.Market{}, make([]api.Owner, api.MaxPlayers+1)), api.ErrNone)
	one := widest()
	one.Teams = keys(1)
	for many, want := range map[int]api.Errno{api.MaxHave: api.OK, api.MaxHave + 1: api.ErrFull} {
		var o []api.Owner
		for i := range many {
			o = append(o, api.Owner{Player: key(i), Team: key(0)})
		}
		equal(t, "of one team", CheckOwners(one, o), want)
	}
}

// P6.1: CheckOffers.
func TestCheckOffers(t *testing.T) {
	long := key(0) + "k"
	good := "o a 0 9 p:a:b"
	for _, x := range []struct {
		name string
		l    []api.Offer
		want api.Errno
	}{
		{"none", nil, api.OK},
		{"ordinary", offers("o a 0 9 p:a:b q:b:a", "p c 3 4 p:d:c"), api.OK},
		{"of three teams", offers("o b 0 9 p:a:b q:b:c r:c:a"), api.OK},
		{"a gift", offers("o b 0 9 p:a:b"), api.OK},
		{"By of a later give", offers("o d 0 9 p:a:b q:c:d"), api.OK},
		{"keys of other things", offers("a a 0 9 a:a:b b:b:a"), api.OK},
		{"longest time", offers("o a 0 345686400000 p:a:b"), api.OK},
		{"shortest time", offers("o a 345686399999 345686400000 p:a:b"), api.OK},
		{"longest names", offers(key(0) + " a 0 9 " + key(1) + ":a:b"), api.OK},
		{"nothing", []api.Offer{{}}, api.ErrName},
		{"Id no key", offers("O e 0 0"), api.ErrName},
		{"Id too long", offers(long + " a 0 9 p:a:b"), api.ErrName},
		{"no team By", offers("o e 0 0"), api.ErrNone},
		{"From below 0", offers("o a -1 9"), api.ErrArg},
		{"no time", offers("o a 9 9"), api.ErrArg},
		{"To before From", offers("o a 9 8"), api.ErrArg},
		{"To too late", offers("o a 0 345686400001"), api.ErrArg},
		{"From the greatest", offers("o a 9223372036854775807 9 p:a:b"), api.ErrArg},
		{"From the least", offers("o a -9223372036854775808 9 p:a:b"), api.ErrArg},
		{"To the greatest", offers("o a 0 9223372036854775807 p:a:b"), api.ErrArg},
		{"To the least", offers("o a 0 -9223372036854775808 p:a:b"), api.ErrArg},
		{"no gives", offers("o a 0 9"), api.ErrNone},
		{"player no key", offers("o a 0 9 q:a:b P:e:f"), api.ErrName},
		{"player too long", offers("o a 0 9 " + long + ":a:b"), api.ErrName},
		{"no team From", offers("o a 0 9 q:a:b p:e:a"), api.ErrNone},
		{"no team From, which is To", offers("o a 0 9 q:a:b p:e:e"), api.ErrNone},
		{"no team To", offers("o a 0 9 q:a:b p:a:e"), api.ErrNone},
		{"From and To one", offers("o a 0 9 q:a:b p:b:b"), api.ErrRule},
		{"player twice", offers("o a 0 9 p:a:b p:b:a"), api.ErrOrder},
		{"players fall", offers("o a 0 9 q:a:b p:b:a"), api.ErrOrder},
		{"first give first", offers("o a 0 9 p:a:a P:a:b"), api.ErrRule},
		{"By has nothing of it", offers("o c 0 9 p:a:b q:b:a"), api.ErrRule},
		{"By has nothing of it, and gives fall", offers("o c 0 9 q:a:b p:b:a"), api.ErrOrder},
		{"By has nothing of it, and Id falls", offers("o a 0 9 p:a:b", "n c 0 9 p:a:b"), api.ErrRule},
		{"Id twice", offers(good, good), api.ErrOrder},
		{"Ids fall", offers(good, "n a 0 9 p:a:b"), api.ErrOrder},
		{"first offer first", offers(good, good, "O e 0 0"), api.ErrOrder},
	} {
		equal(t, x.name, CheckOffers(market(), x.l), x.want)
	}
	equal(t, "market first", CheckOffers(api.Market{}, make([]api.Offer, api.MaxOffers+1)), api.ErrNone)
	equal(t, "most", CheckOffers(widest(), manyOffers(api.MaxOffers, api.MaxGives)), api.OK)
	equal(t, "too many", CheckOffers(widest(), manyOffers(api.MaxOffers+1, 1)), api.ErrLarge)
	equal(t, "too many, and wrong", CheckOffers(widest(), make([]api.Offer, api.MaxOffers+1)), api.ErrLarge)
	equal(t, "too many gives", CheckOffers(widest(), manyOffers(1, api.MaxGives+1)), api.ErrLarge)
	wrong := manyOffers(1, api.MaxGives+1)
	wrong[0].Gives[0], wrong[0].By = api.Give{}, key(1)
	equal(t, "too many gives, and wrong", CheckOffers(widest(), wrong), api.ErrLarge)
}

// P6.1: CheckAnswers.
func TestCheckAnswers(t *testing.T) {
	for _, x := range []struct {
		name string
		a    []api.Answer
		want api.Errno
	}{
		{"none", nil, api.OK},
		{"each kind", answers("0 o a yes", "1 o a no", "2 o a veto", "3 o a back"), api.OK},
		{"last moment", answers("345686399999 o a yes"), api.OK},
		{"longest name", answers("0 " + key(0) + " a yes"), api.OK},
		{"by moment first", answers("0 p b yes", "1 o a yes"), api.OK},
		{"then by offer", answers("1 o b yes", "1 p a yes"), api.OK},
		{"then by team", answers("1 o a veto", "1 o b yes"), api.OK},
		{"nothing", []api.Answer{{}}, api.ErrName},
		{"offer no key", answers("0 o a yes", "-1 O e no"), api.ErrName},
		{"offer too long", answers("0 " + key(0) + "k a yes"), api.ErrName},
		{"no such team", answers("0 o a yes", "-1 o e ?"), api.ErrNone},
		{"moment below 0", answers("-1 o a ?"), api.ErrArg},
		{"no moment", answers("345686400000 o a ?"), api.ErrArg},
		{"greatest moment", answers("9223372036854775807 o a yes"), api.ErrArg},
		{"least moment", answers("-9223372036854775808 o a yes"), api.ErrArg},
		{"kind 0", answers("1 o a yes", "0 o a ?"), api.ErrKind},
		{"kind 5", []api.Answer{{Offer: "o", Team: "a", Kind: 5}}, api.ErrKind},
		{"kind -1", []api.Answer{{Offer: "o", Team: "a", Kind: -1}}, api.ErrKind},
		{"twice", answers("1 o a yes", "1 o a yes"), api.ErrOrder},
		{"two kinds", answers("1 o a yes", "1 o a no"), api.ErrOrder},
		{"moments fall", answers("1 o a yes", "0 p b no"), api.ErrOrder},
		{"offers fall", answers("1 p a yes", "1 o b no"), api.ErrOrder},
		{"teams fall", answers("1 o b yes", "1 o a no"), api.ErrOrder},
		{"first one first", answers("1 o a yes", "0 o a yes", "0 O a yes"), api.ErrOrder},
	} {
		equal(t, x.name, CheckAnswers(market(), x.a), x.want)
	}
	equal(t, "market first", CheckAnswers(api.Market{}, make([]api.Answer, api.MaxAnswers+1)), api.ErrNone)
	equal(t, "most", CheckAnswers(widest(), manyAnswers(api.MaxAnswers, api.AnswerNo)), api.OK)
	equal(t, "too many", CheckAnswers(widest(), manyAnswers(api.MaxAnswers+1, api.AnswerNo)), api.ErrLarge)
	equal(t, "too many, and wrong", CheckAnswers(widest(), make([]api.Answer, api.MaxAnswers+1)), api.ErrLarge)
}

// P6.1: Merge.
func TestMerge(t *testing.T) {
	for _, x := range []struct {
		name       string
		a, b, want []api.Answer
	}{
		{"nothing", nil, nil, nil},
		{"one list", answers("0 o a yes", "1 o b no"), nil, answers("0 o a yes", "1 o b no")},
		{"the same", answers("0 o a yes", "1 o b no"), answers("0 o a yes", "1 o b no"), answers("0 o a yes", "1 o b no")},
		{"in order", answers("0 o b yes", "5 p a no"), answers("0 o a no", "3 p a back", "5 o b veto"), answers("0 o a no", "0 o b yes", "3 p a back", "5 o b veto", "5 p a no")},
		{"another kind later", answers("0 o b yes"), answers("1 o b no"), answers("0 o b yes", "1 o b no")},
	} {
		for _, lists := range [][2][]api.Answer{{x.a, x.b}, {x.b, x.a}} {
			l, e := Merge(market(), lists[0], lists[1])
			equal(t, x.name, e, api.OK)
			list(t, x.name, l, x.want)
		}
	}
}

// P6.1: errors of Merge.
func TestMergeErrors(t *testing.T) {
	all := manyAnswers(api.MaxAnswers+1, api.AnswerYes)
	other := slices.Clone(all)
	other[1500].Kind = api.AnswerNo
	for _, x := range []struct {
		name string
		a, b []api.Answer
		want api.Errno
	}{
		{"first list", []api.Answer{{Offer: "o", Team: key(0)}}, make([]api.Answer, api.MaxAnswers+1), api.ErrKind},
		{"second list", all[:9], []api.Answer{{Offer: "o", Team: key(0)}}, api.ErrKind},
		{"first list too many", all, nil, api.ErrLarge},
		{"second list too many", nil, all, api.ErrLarge},
		{"too many", all[:1], all[1:], api.ErrLarge},
		{"another kind", all[1000:1501], other[1500:1600], api.ErrConflict},
		{"another kind, and too many", all[:1501], other[1500:], api.ErrConflict},
		{"just as many as can be", all[:1500], all[1000:2000], api.OK},
		{"the most twice", all[1:], all[1:], api.OK},
	} {
		l, e := Merge(widest(), x.a, x.b)
		equal(t, x.name, e, x.want)
		if e != api.OK {
			list(t, x.name, l, nil)
		}
	}
}

// P6.1: answers that are merged in any order are the same, and right.
func TestMergePlainly(t *testing.T) {
	random := rand.New(rand.NewPCG(61, 1))
	kinds := []int{api.AnswerYes, api.AnswerNo, api.AnswerVeto, api.AnswerBack}
	conflicts := 0
	for range 300 {
		var a, b, want []api.Answer
		conflict := false
		for at := range 4 {
			for _, offer := range strings.Fields("o p") {
				for _, team := range strings.Fields("a b c") {
					x := api.Answer{Offer: offer, Team: team, At: at, Kind: kinds[random.IntN(4)]}
					one, other := random.IntN(3) == 0, random.IntN(3) == 0
					if one {
						a = append(a, x)
					}
					if one || other {
						want = append(want, x)
					}
					if one && other && random.IntN(9) == 0 {
						x.Kind = 5 - x.Kind
						conflict = true
					}
					if other {
						b = append(b, x)
					}
				}
			}
		}
		for _, lists := range [][2][]api.Answer{{a, b}, {b, a}} {
			l, e := Merge(market(), lists[0], lists[1])
			if conflict {
				conflicts++
				equal(t, "conflict", e, api.ErrConflict)
				list(t, "conflict", l, nil)
				continue
			}
			equal(t, "Merge", e, api.OK)
			list(t, "Merge", l, want)
			equal(t, "CheckAnswers", CheckAnswers(market(), l), api.OK)
		}
	}
	if conflicts < 50 {
		t.Errorf("only %d conflicts", conflicts)
	}
}

// P6.1: Concerned.
func TestConcerned(t *testing.T) {
	for line, want := range map[string]string{
		"o a 0 9 p:a:b":                   "a b",
		"o a 0 9 p:b:a":                   "a b",
		"o d 0 9 p:d:c q:c:d r:c:a":       "a c d",
		"o c 0 9 p:d:c q:c:b r:b:a":       "a b c d",
		"o a 0 9 p:a:b q:a:b r:a:b":       "a b",
		"o b 0 9 p:a:c q:b:c r:c:a ":      "a b c",
		"o d 0 9 d:d:a e:a:d f:a:d g:d:a": "a d",
	} {
		teams, e := Concerned(market(), offerOf(line))
		equal(t, line, e, api.OK)
		equal(t, line, strings.Join(teams, " "), want)
	}
	for line, want := range map[string]api.Errno{
		"O a 0 9 p:a:b": api.ErrName, "o e 0 9 p:a:b": api.ErrNone, "o a 9 9 p:a:b": api.ErrArg,
		"o a 0 9": api.ErrNone, "o a 0 9 p:a:a": api.ErrRule, "o a 0 9 p:a:b p:b:c": api.ErrOrder, "o c 0 9 p:a:b": api.ErrRule,
	} {
		teams, e := Concerned(market(), offerOf(line))
		equal(t, line, e, want)
		list(t, line, teams, nil)
	}
	_, e := Concerned(api.Market{}, api.Offer{})
	equal(t, "market first", e, api.ErrNone)
	teams, e := Concerned(widest(), manyOffers(1, api.MaxGives)[0])
	equal(t, "largest", e, api.OK)
	list(t, "largest", teams, keys(api.MaxTeams))
	_, e = Concerned(widest(), manyOffers(1, api.MaxGives+1)[0])
	equal(t, "larger", e, api.ErrLarge)
}

// P6.1: Can and Did.
func TestDid(t *testing.T) {
	all := "p:a q:a r:b s:c t:d u:d"
	for _, x := range []struct {
		name string
		m    api.Market
		x    string
		want string // empty: it can't be done
	}{
		{"one for one", market(), "o a 0 9 p:a:b r:b:a", "p:b q:a r:a s:c t:d u:d"},
		{"two for one", market(), "o a 0 9 p:a:b q:a:b r:b:a", "p:b q:b r:a s:c t:d u:d"},
		{"a gift", market(), "o b 0 9 p:a:b", "p:b q:a r:b s:c t:d u:d"},
		{"all of a team go", market(), "o b 0 9 r:b:c", "p:a q:a r:c s:c t:d u:d"},
		{"three teams", market(), "o b 0 9 p:a:b r:b:c s:c:a", "p:b q:a r:c s:a t:d u:d"},
		{"another team has the player", market(), "o a 0 9 p:b:a", ""},
		{"another team has the last player", market(), "o a 0 9 p:a:b r:c:a", ""},
		{"they have come there already", market(), "o a 0 9 p:a:b r:a:b", ""},
		{"nobody has the player", market(), "o a 0 9 p:a:b x:b:a", ""},
		{"just as many as can be", market(), "o a 0 9 p:a:d", "p:d q:a r:b s:c t:d u:d"},
		{"too many", market(), "o a 0 9 p:a:d q:a:d", ""},
		{"too many, but one goes", market(), "o a 0 9 p:a:d q:a:d t:d:c", "p:d q:d r:b s:c t:c u:d"},
		{"too many of one who is not By", sized(0, 2), "o a 0 9 p:a:d", ""},
		{"just enough", sized(1, 2), "o a 0 9 p:a:b", "p:b q:a r:b s:c t:d u:d"},
		{"too few", sized(1, 3), "o b 0 9 r:b:a", ""},
		{"too few, though one comes", sized(1, 3), "o a 0 9 p:a:b q:a:b", ""},
		{"none less, as one comes", sized(1, 2), "o b 0 9 r:b:c s:c:b", "p:a q:a r:c s:b t:d u:d"},
		{"its time does not matter", market(), "o a 600 700 p:a:b", "p:b q:a r:b s:c t:d u:d"},
	} {
		can, e := Can(x.m, owners(all), offerOf(x.x))
		equal(t, x.name, e, api.OK)
		equal(t, x.name, can, x.want != "")
		o, e := Did(x.m, owners(all), offerOf(x.x))
		equal(t, x.name, held(o), x.want)
		if x.want == "" {
			equal(t, x.name, e, api.ErrState)
			continue
		}
		equal(t, x.name, e, api.OK)
		equal(t, x.name, CheckOwners(x.m, o), api.OK)
	}
}

// P6.1: errors of Can and Did.
func TestDidErrors(t *testing.T) {
	o, x := owners("p:a q:b"), offerOf("o a 0 9 p:a:b")
	for _, y := range []struct {
		name string
		m    api.Market
		o    []api.Owner
		x    api.Offer
		want api.Errno
	}{
		{"market", api.Market{}, owners("q:a p:a"), api.Offer{}, api.ErrNone},
		{"owners", market(), owners("q:a p:a"), api.Offer{}, api.ErrOrder},
		{"too many of a team", sized(0, 1), owners("p:a q:a"), x, api.ErrFull},
		{"offer", market(), o, api.Offer{}, api.ErrName},
		{"offer's time", market(), o, offerOf("o a 9 9 x:a:b"), api.ErrArg},
		{"too many gives", widest(), nil, manyOffers(1, api.MaxGives+1)[0], api.ErrLarge},
	} {
		can, e := Can(y.m, y.o, y.x)
		equal(t, y.name, e, y.want)
		equal(t, y.name, can, false)
		then, e := Did(y.m, y.o, y.x)
		equal(t, y.name, e, y.want)
		list(t, y.name, then, nil)
	}
}

// P6.1: the largest owners and offers.
func TestDidMost(t *testing.T) {
	m, o, x := widest(), manyOwners(api.MaxPlayers), manyOffers(1, api.MaxGives)[0]
	then, e := Did(m, o, x)
	equal(t, "Did", e, api.OK)
	equal(t, "players", len(then), api.MaxPlayers)
	for i, y := range then {
		want := o[i]
		if i < api.MaxGives {
			want.Team = key((i + 1) % api.MaxTeams)
		}
		equal(t, "owner", y, want)
	}
	again, e := Did(m, then, x)
	equal(t, "once more", e, api.ErrState)
	list(t, "once more", again, nil)
}
