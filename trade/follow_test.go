package trade

import (
	"fmt"
	"math"
	"math/rand/v2"
	"slices"
	"strings"
	"testing"

	"benchwarmer/api"
)

// swapped is the offer of the document's example: a offers b its player ann for bob, from 0 to 100.
const swapped = "o a 0 100 ann:a:b bob:b:a"

// P6.2: how an offer stands at moments. Lines of changes have the moments between commas; at all moments between it stands as before.
func TestStages(t *testing.T) {
	for _, x := range []struct {
		name    string
		spoil   func(m *api.Market)
		offer   string
		answers []string
		want    string // how, and since when
	}{
		{"the example", nil, swapped, []string{"5 o b yes"}, "open 0, waits 5, done 15"},
		{"the example with vetoes", nil, swapped, []string{"5 o b yes", "7 o c veto", "7 o d veto"}, "open 0, waits 5, stopped 7"},
		{"no answer", nil, swapped, nil, "open 0, late 100"},
		{"later", nil, "o a 20 30 ann:a:b", nil, "open 20, late 30"},
		{"answers before it is there", nil, "o a 20 30 ann:a:b", []string{"18 o b no", "19 o b yes"}, "open 20, late 30"},
		{"taken back before it is there", nil, "o a 20 30 ann:a:b", []string{"19 o a back", "21 o b yes"}, "open 20, waits 21, done 31"},
		{"yes as it opens", nil, "o a 20 30 ann:a:b", []string{"20 o b yes"}, "waits 20, done 30"},
		{"no as it opens", nil, "o a 20 30 ann:a:b", []string{"20 o b no"}, "refused 20"},
		{"yes at the end", nil, "o a 20 30 ann:a:b", []string{"30 o b yes"}, "open 20, waits 30, done 40"},
		{"yes behind the end", nil, "o a 20 30 ann:a:b", []string{"31 o b yes"}, "open 20, late 30"},
		{"it waits behind its end", nil, "o a 20 30 ann:a:b", []string{"25 o b yes"}, "open 20, waits 25, done 35"},
		{"other offers' answers", nil, swapped, []string{"5 p b yes", "6 n a back"}, "open 0, late 100"},
		{"By says yes", nil, swapped, []string{"5 o a yes"}, "open 0, late 100"},
		{"others say yes", nil, swapped, []string{"5 o c yes", "6 o d yes"}, "open 0, late 100"},
		{"yes twice", nil, "o a 0 100 ann:a:b bob:b:c", []string{"5 o b yes", "6 o b yes"}, "open 0, late 100"},
		{"three teams", nil, "o a 0 100 ann:a:b bob:b:c", []string{"5 o b yes", "6 o c yes"}, "open 0, waits 6, done 16"},
		{"three teams, one too late", nil, "o a 0 100 ann:a:b bob:b:c", []string{"5 o b yes", "101 o c yes"}, "open 0, late 100"},
		{"By is in the middle", nil, "o b 0 100 ann:a:b bob:b:c", []string{"5 o c yes", "6 o a yes"}, "open 0, waits 6, done 16"},
		{"all at one moment", nil, "o b 0 100 ann:a:b bob:b:c", []string{"5 o a yes", "5 o c yes"}, "open 0, waits 5, done 15"},
		{"yes once more", nil, swapped, []string{"5 o b yes", "7 o b yes", "8 o a yes"}, "open 0, waits 5, done 15"},
		{"no", nil, swapped, []string{"5 o b no", "6 o b yes"}, "open 0, refused 5"},
		{"no of By", nil, swapped, []string{"5 o a no", "6 o b yes"}, "open 0, refused 5"},
		{"no of others", nil, swapped, []string{"5 o c no", "6 o b yes"}, "open 0, waits 6, done 16"},
		{"no behind yes", nil, "o a 0 100 ann:a:b bob:b:c", []string{"5 o b yes", "6 o b no", "7 o c yes"}, "open 0, refused 6"},
		{"no while it waits", nil, swapped, []string{"5 o b yes", "7 o b no"}, "open 0, waits 5, refused 7"},
		{"no of By while it waits", nil, swapped, []string{"5 o b yes", "7 o a no"}, "open 0, waits 5, refused 7"},
		{"no as the wait ends", nil, swapped, []string{"5 o b yes", "15 o b no"}, "open 0, waits 5, refused 15"},
		{"no behind the wait", nil, swapped, []string{"5 o b yes", "16 o b no"}, "open 0, waits 5, done 15"},
		{"no at the end", nil, swapped, []string{"100 o b no"}, "open 0, refused 100"},
		{"back", nil, swapped, []string{"3 o a back", "5 o b yes"}, "open 0, back 3"},
		{"back while it waits", nil, swapped, []string{"5 o b yes", "6 o a back"}, "open 0, waits 5, back 6"},
		{"back as the wait ends", nil, swapped, []string{"5 o b yes", "15 o a back"}, "open 0, waits 5, back 15"},
		{"back behind the wait", nil, swapped, []string{"5 o b yes", "16 o a back"}, "open 0, waits 5, done 15"},
		{"back and yes at one moment", nil, swapped, []string{"5 o a back", "5 o b yes"}, "open 0, back 5"},
		{"back of one who is not By", nil, swapped, []string{"3 o b back", "3 o c back", "5 o b yes"}, "open 0, waits 5, done 15"},
		{"back behind no", nil, swapped, []string{"3 o b no", "4 o a back"}, "open 0, refused 3"},
		{"no behind back", nil, swapped, []string{"3 o a back", "4 o b no"}, "open 0, back 3"},
		{"one veto", nil, swapped, []string{"5 o b yes", "7 o c veto"}, "open 0, waits 5, done 15"},
		{"a veto twice", nil, swapped, []string{"5 o b yes", "7 o c veto", "8 o c veto"}, "open 0, waits 5, done 15"},
		{"vetoes apart", nil, swapped, []string{"5 o b yes", "7 o d veto", "15 o c veto"}, "open 0, waits 5, stopped 15"},
		{"a veto too late", nil, swapped, []string{"5 o b yes", "7 o d veto", "16 o c veto"}, "open 0, waits 5, done 15"},
		{"vetoes of those who are concerned", nil, swapped, []string{"5 o b yes", "6 o a veto", "6 o b veto", "7 o c veto"}, "open 0, waits 5, done 15"},
		{"a veto before it waits", nil, swapped, []string{"4 o c veto", "5 o b yes", "7 o d veto"}, "open 0, waits 5, done 15"},
		{"a veto before it waits, and once more", nil, swapped, []string{"4 o c veto", "5 o b yes", "7 o c veto", "7 o d veto"}, "open 0, waits 5, stopped 7"},
		{"vetoes as it begins to wait", nil, swapped, []string{"5 o b yes", "5 o c veto", "5 o d veto"}, "open 0, waits 5, stopped 5"},
		{"a veto ahead of the last yes", nil, "o c 0 100 cid:c:d", []string{"5 o a veto", "5 o b veto", "5 o d yes"}, "open 0, waits 5, done 15"},
		{"one veto is enough", func(m *api.Market) { m.Vetoes = 1 }, swapped, []string{"5 o b yes", "7 o c veto"}, "open 0, waits 5, stopped 7"},
		{"more vetoes than others", func(m *api.Market) { m.Vetoes = 3 }, swapped, []string{"5 o b yes", "7 o c veto", "7 o d veto"}, "open 0, waits 5, done 15"},
		{"no behind a stop", nil, swapped, []string{"5 o b yes", "7 o c veto", "7 o d veto", "8 o b no", "8 o c veto"}, "open 0, waits 5, stopped 7"},
		{"wait 0", func(m *api.Market) { m.Wait = 0 }, swapped, []string{"5 o b yes"}, "open 0, done 5"},
		{"wait 0, at its end", func(m *api.Market) { m.Wait = 0 }, swapped, []string{"100 o b yes"}, "open 0, done 100"},
		{"wait 0, as it opens", func(m *api.Market) { m.Wait = 0 }, "o a 7 9 ann:a:b", []string{"7 o b yes"}, "done 7"},
		{"wait 0, and vetoes", func(m *api.Market) { m.Wait, m.Vetoes = 0, 1 }, swapped, []string{"5 o b yes", "5 o c veto"}, "open 0, stopped 5"},
		{"wait 1", func(m *api.Market) { m.Wait = 1 }, swapped, []string{"5 o b yes"}, "open 0, waits 5, done 6"},
		{"broken from the first", nil, "o a 0 100 ann:b:a", []string{"5 o b yes"}, "open 0, waits 5, broken 15"},
		{"answers to what is broken", nil, "o a 0 100 ann:b:a", []string{"5 o b yes", "16 o b yes", "17 o b no"}, "open 0, waits 5, broken 15"},
		{"broken: too many", func(m *api.Market) { m.Most = 1 }, "o a 0 100 ann:a:b", []string{"5 o b yes"}, "open 0, waits 5, broken 15"},
		{"broken: too few", func(m *api.Market) { m.Least = 1 }, "o d 0 100 dan:d:b", []string{"5 o b yes"}, "open 0, waits 5, broken 15"},
		{"open at the deadline", func(m *api.Market) { m.Deadline = 12 }, swapped, nil, "open 0, late 12"},
		{"open behind the deadline", func(m *api.Market) { m.Deadline = 12 }, "o a 13 100 ann:a:b", []string{"14 o b yes"}, "late 13"},
		{"open from the deadline on", func(m *api.Market) { m.Deadline = 13 }, "o a 13 100 ann:a:b", nil, "late 13"},
		{"no behind the deadline", func(m *api.Market) { m.Deadline = 12 }, "o a 13 100 ann:a:b", []string{"13 o b no"}, "refused 13"},
		{"yes behind the deadline", func(m *api.Market) { m.Deadline = 12 }, "o a 13 100 ann:a:b", []string{"13 o b yes"}, "waits 13, late 23"},
		{"yes at the deadline", func(m *api.Market) { m.Deadline = 12 }, swapped, []string{"12 o b yes"}, "open 0, waits 12, late 22"},
		{"no at the deadline", func(m *api.Market) { m.Deadline = 12 }, swapped, []string{"12 o b no"}, "open 0, refused 12"},
		{"the wait ends behind the deadline", func(m *api.Market) { m.Deadline = 12 }, swapped, []string{"5 o b yes"}, "open 0, waits 5, late 15"},
		{"the wait ends at the deadline", func(m *api.Market) { m.Deadline = 15 }, swapped, []string{"5 o b yes"}, "open 0, waits 5, late 15"},
		{"the wait ends before the deadline", func(m *api.Market) { m.Deadline = 16 }, swapped, []string{"5 o b yes"}, "open 0, waits 5, done 15"},
		{"stopped behind the deadline", func(m *api.Market) { m.Deadline = 6 }, swapped, []string{"5 o b yes", "7 o c veto", "7 o d veto"}, "open 0, waits 5, stopped 7"},
		{"broken, but late", func(m *api.Market) { m.Deadline = 12 }, "o a 0 100 ann:b:a", []string{"5 o b yes"}, "open 0, waits 5, late 15"},
		{"wait 0 at the deadline", func(m *api.Market) { m.Wait, m.Deadline = 0, 5 }, swapped, []string{"5 o b yes"}, "open 0, late 5"},
		{"deadline 0", func(m *api.Market) { m.Deadline = 0 }, swapped, []string{"5 o b yes"}, "late 0"},
		{"deadline 0, and yes", func(m *api.Market) { m.Deadline = 0 }, swapped, []string{"0 o b yes"}, "waits 0, late 10"},
	} {
		m := market()
		if x.spoil != nil {
			x.spoil(&m)
		}
		var got []string
		for at := range 130 {
			stages, e := Stages(m, owners("ann:a bob:b cid:c dan:d"), offers(x.offer), answers(x.answers...), at)
			equal(t, x.name, e, api.OK)
			now := strings.TrimPrefix(stood(stages), "o ")
			if len(stages) > 0 && !slices.Contains(got, now) {
				got = append(got, now)
			}
		}
		// What is over at its own moment can't be seen.
		var want []string
		for _, line := range strings.Split(x.want, ", ") {
			since := line[strings.LastIndex(line, " "):]
			if len(want) > 0 && strings.HasSuffix(want[len(want)-1], since) {
				want = want[:len(want)-1]
			}
			want = append(want, line)
		}
		equal(t, x.name, strings.Join(got, ", "), strings.Join(want, ", "))
	}
}

// P6.2: offers that concern each other.
func TestStagesTogether(t *testing.T) {
	yes := []string{"1 i b yes", "1 j c yes", "1 k d yes"}
	for _, x := range []struct {
		name    string
		spoil   func(m *api.Market)
		offers  []string
		answers []string
		want    string
		owners  string
	}{
		{"two for one player, by Id", nil, []string{"i a 0 9 ann:a:b", "j a 0 9 ann:a:c"}, yes, "i done 11, j broken 11", "ann:b bob:b cid:c"},
		{"one gives what it gets", nil, []string{"i a 0 9 ann:a:b", "j b 0 9 ann:b:c", "k c 0 9 ann:c:d"}, yes, "i done 11, j done 11, k done 11", "ann:d bob:b cid:c"},
		{"the other way round", nil, []string{"i b 0 9 ann:c:b", "j a 0 9 ann:a:c"}, []string{"1 i c yes", "1 j c yes"}, "i broken 11, j done 11", "ann:c bob:b cid:c"},
		{"the earlier wait, not the Id", nil, []string{"i a 0 9 ann:a:b", "j a 0 9 ann:a:c"}, []string{"1 j c yes", "2 i b yes"}, "i broken 12, j done 11", "ann:c bob:b cid:c"},
		{"not the earlier offer", nil, []string{"i a 0 9 ann:a:b", "j a 3 9 ann:a:c"}, []string{"4 j c yes", "5 i b yes"}, "i broken 15, j done 14", "ann:c bob:b cid:c"},
		{"room comes", func(m *api.Market) { m.Most = 1 }, []string{"i b 0 9 bob:b:d", "j a 0 9 ann:a:b"}, []string{"1 i d yes", "1 j b yes"}, "i done 11, j done 11", "ann:b bob:d cid:c"},
		{"room comes too late", func(m *api.Market) { m.Most = 1 }, []string{"i a 0 9 ann:a:b", "j b 0 9 bob:b:d"}, []string{"1 i b yes", "1 j d yes"}, "i broken 11, j done 11", "ann:a bob:d cid:c"},
		{"by Id, also of those that are late", nil, []string{"i a 5 20 ann:a:b", "j a 0 10 ann:a:b", "k a 30 40 ann:a:b"}, nil, "i late 20, j late 10, k open 30", "ann:a bob:b cid:c"},
		{"not yet there", nil, []string{"i a 0 9 ann:a:b", "j a 36 40 ann:a:b"}, nil, "i late 9", "ann:a bob:b cid:c"},
		{"each has its own vetoes", nil, []string{"i a 0 9 ann:a:b", "j b 0 9 bob:b:a"}, []string{"1 i b yes", "1 j a yes", "2 i c veto", "2 j d veto", "3 i d veto"}, "i stopped 3, j done 11", "ann:a bob:a cid:c"},
		{"there and back", nil, []string{"i a 0 9 ann:a:b", "j b 0 30 ann:b:a"}, []string{"1 i b yes", "12 j a yes"}, "i done 11, j done 22", "ann:a bob:b cid:c"},
		{"at one moment with wait 0", func(m *api.Market) { m.Wait = 0 }, []string{"i a 0 9 ann:a:b", "j b 0 9 ann:b:c"}, []string{"1 i b yes", "1 j c yes"}, "i done 1, j done 1", "ann:c bob:b cid:c"},
		{"a later moment with wait 0", func(m *api.Market) { m.Wait = 0 }, []string{"i b 0 9 ann:b:c", "j a 0 9 ann:a:b"}, []string{"1 i c yes", "1 j b yes"}, "i broken 1, j done 1", "ann:b bob:b cid:c"},
	} {
		m := market()
		if x.spoil != nil {
			x.spoil(&m)
		}
		stages, e := Stages(m, owners("ann:a bob:b cid:c"), offers(x.offers...), answers(x.answers...), 35)
		equal(t, x.name, e, api.OK)
		equal(t, x.name, stood(stages), x.want)
		o, e := Owners(m, owners("ann:a bob:b cid:c"), offers(x.offers...), answers(x.answers...), 35)
		equal(t, x.name, e, api.OK)
		equal(t, x.name, held(o), x.owners)
	}
}

// P6.2: Owners at moments.
func TestOwners(t *testing.T) {
	for at, want := range map[int]string{0: "ann:a bob:b cid:c", 14: "ann:a bob:b cid:c", 15: "ann:b bob:a cid:c", api.End - 1: "ann:b bob:a cid:c"} {
		o, e := Owners(market(), owners("ann:a bob:b cid:c"), offers(swapped), answers("5 o b yes"), at)
		equal(t, "Owners", e, api.OK)
		equal(t, fmt.Sprint("Owners at ", at), held(o), want)
	}
	o, e := Owners(market(), nil, nil, nil, 0)
	equal(t, "nobody", e, api.OK)
	list(t, "nobody", o, nil)
}

// P6.2: the last moments there are.
func TestLastMoments(t *testing.T) {
	m := market()
	m.Deadline = api.End
	for _, x := range []struct {
		name    string
		wait    int
		answers string
		at      int
		want    string
	}{
		{"open", 10, "0 o b yes", api.End - 1, "o open 345686399998"},
		{"waits, and the wait ends too late", 10, "345686399998 o b yes", api.End - 1, "o waits 345686399998"},
		{"done at the last moment", 1, "345686399998 o b yes", api.End - 1, "o done 345686399999"},
		{"yes at the last moment", 0, "345686399999 o b yes", api.End - 1, "o done 345686399999"},
		{"before", 0, "345686399999 o b yes", api.End - 3, ""},
	} {
		m.Wait = x.wait
		stages, e := Stages(m, owners("ann:a bob:b"), offers("o a 345686399998 345686400000 ann:a:b"), answers(x.answers), x.at)
		equal(t, x.name, e, api.OK)
		equal(t, x.name, stood(stages), x.want)
	}
}

// P6.2: Waits.
func TestWaits(t *testing.T) {
	l := offers("i a 0 50 ann:a:b", "j a 0 50 ann:a:b bob:b:c", "k b 0 20 ann:a:b", "l c 10 50 cid:c:d", "m b 0 50 bob:b:c")
	a := answers("5 j b yes", "6 m c no", "12 i b yes", "13 l d no")
	for _, x := range []struct {
		team string
		at   int
		want string
	}{
		{"a", 0, "k"}, {"a", 19, "k"}, {"a", 20, ""},
		{"b", 0, "i j"}, {"b", 4, "i j"}, {"b", 5, "i"}, {"b", 11, "i"}, {"b", 12, ""},
		{"c", 0, "j m"}, {"c", 6, "j"}, {"c", 49, "j"}, {"c", 50, ""},
		{"d", 0, ""}, {"d", 9, ""}, {"d", 10, "l"}, {"d", 12, "l"}, {"d", 13, ""},
	} {
		ids, e := Waits(market(), owners("ann:a bob:b cid:c"), l, a, x.team, x.at)
		name := fmt.Sprint("Waits of ", x.team, " at ", x.at)
		equal(t, name, e, api.OK)
		equal(t, name, strings.Join(ids, " "), x.want)
	}
}

// P6.2: Way.
func TestWay(t *testing.T) {
	l := offers("i a 0 50 ann:a:b bob:b:a", "j c 0 50 ann:b:c", "k d 0 50 ann:c:d", "l d 0 50 ann:d:a")
	a := answers("1 i b yes", "2 j b yes", "2 k c yes", "20 l a yes")
	for _, x := range []struct {
		player string
		at     int
		want   string
	}{
		{"ann", 0, "a"}, {"ann", 10, "a"}, {"ann", 11, "a b"}, {"ann", 12, "a b c d"}, {"ann", 29, "a b c d"}, {"ann", 30, "a b c d a"},
		{"bob", 10, "b"}, {"bob", 11, "b a"}, {"bob", api.End - 1, "b a"}, {"cid", api.End - 1, "c"},
	} {
		way, e := Way(market(), l, x.player, owners("ann:a bob:b cid:c"), a, x.at)
		name := fmt.Sprint("Way of ", x.player, " at ", x.at)
		equal(t, name, e, api.OK)
		equal(t, name, strings.Join(way, " "), x.want)
	}
}

// P6.2: errors.
func TestFollowErrors(t *testing.T) {
	for _, x := range []struct {
		name          string
		team, player  string
		at            int
		stages, waits api.Errno
		way           api.Errno
	}{
		{"ordinary", "a", "ann", 5, api.OK, api.OK, api.OK},
		{"first moment", "a", "ann", 0, api.OK, api.OK, api.OK},
		{"last moment", "a", "ann", api.End - 1, api.OK, api.OK, api.OK},
		{"below 0", "a", "ann", -1, api.ErrArg, api.ErrArg, api.ErrArg},
		{"End", "a", "ann", api.End, api.ErrArg, api.ErrArg, api.ErrArg},
		{"least", "a", "ann", math.MinInt, api.ErrArg, api.ErrArg, api.ErrArg},
		{"greatest", "a", "ann", math.MaxInt, api.ErrArg, api.ErrArg, api.ErrArg},
		{"no such", "e", "eve", 5, api.OK, api.ErrNone, api.ErrNone},
		{"no such, and no moment", "", "", -1, api.ErrArg, api.ErrNone, api.ErrNone},
		{"a player, and a team", "ann", "a", 5, api.OK, api.ErrNone, api.ErrNone},
	} {
		m, o, l, a := market(), owners("ann:a bob:b"), offers(swapped), answers("5 o b yes")
		_, e := Stages(m, o, l, a, x.at)
		equal(t, x.name+": Stages", e, x.stages)
		_, e = Owners(m, o, l, a, x.at)
		equal(t, x.name+": Owners", e, x.stages)
		_, e = Waits(m, o, l, a, x.team, x.at)
		equal(t, x.name+": Waits", e, x.waits)
		way, e := Way(m, l, x.player, o, a, x.at)
		equal(t, x.name+": Way", e, x.way)
		if e != api.OK {
			list(t, x.name+": Way", way, nil)
		}
	}
	// A player of an offer whom nobody has.
	_, e := Way(market(), offers("o a 0 9 eve:a:b"), "eve", owners("ann:a"), nil, 5)
	equal(t, "Way of nobody's player", e, api.ErrNone)
}

// paper follows offers millisecond by millisecond, as somebody would on paper.
type paper struct {
	m     api.Market
	where map[string]string
	how   map[string]string // of each offer, with since when
	said  map[string]bool   // offer, team and kind of what counts
	ways  map[string]string
}

func (p *paper) stands(x api.Offer, how string) bool {
	return strings.HasPrefix(p.how[x.Id], how+" ")
}

// concerns says whether an offer is about a team.
func concerns(x api.Offer, team string) bool {
	return slices.ContainsFunc(x.Gives, func(g api.Give) bool { return g.From == team || g.To == team })
}

// missing says how many who are concerned have not said yes.
func (p *paper) missing(x api.Offer) int {
	n := 0
	for _, team := range p.m.Teams {
		if concerns(x, team) && team != x.By && !p.said[x.Id+" "+team+" yes"] {
			n++
		}
	}
	return n
}

func (p *paper) hear(x api.Offer, team string, kind, at int) {
	open, waits := p.stands(x, "open"), p.stands(x, "waits")
	own := concerns(x, team)
	set := func(how string) { p.how[x.Id] = fmt.Sprint(how, " ", at) }
	if kind == api.AnswerYes && own && open {
		p.said[x.Id+" "+team+" yes"] = true
		if p.missing(x) == 0 {
			set("waits")
		}
	}
	if kind == api.AnswerNo && own && (open || waits) {
		set("refused")
	}
	if kind == api.AnswerBack && team == x.By && (open || waits) {
		set("back")
	}
	if kind == api.AnswerVeto && !own && waits {
		p.said[x.Id+" "+team+" veto"] = true
		n := 0
		for _, other := range p.m.Teams {
			if p.said[x.Id+" "+other+" veto"] {
				n++
			}
		}
		if n >= p.m.Vetoes {
			set("stopped")
		}
	}
}

// do does an offer if it leaves all teams right.
func (p *paper) do(x api.Offer) bool {
	then := map[string]string{}
	for player, team := range p.where {
		then[player] = team
	}
	for _, g := range x.Gives {
		if then[g.Player] != g.From {
			return false
		}
		then[g.Player] = g.To
	}
	for _, team := range p.m.Teams {
		n := 0
		for _, of := range then {
			if of == team {
				n++
			}
		}
		if n < p.m.Least || n > p.m.Most {
			return false
		}
	}
	p.where = then
	for _, g := range x.Gives {
		p.ways[g.Player] += " " + g.To
	}
	return true
}

// pass does what time brings.
func (p *paper) pass(x api.Offer, at int) {
	how := ""
	switch {
	case p.stands(x, "waits") && at >= atoi(strings.Fields(p.how[x.Id])[1])+p.m.Wait:
		if at >= p.m.Deadline {
			how = "late"
		} else if p.do(x) {
			how = "done"
		} else {
			how = "broken"
		}
	case p.stands(x, "open") && (at >= x.Time.To || at >= p.m.Deadline):
		how = "late"
	default:
		return
	}
	p.how[x.Id] = fmt.Sprint(how, " ", at)
}

// P6.2: Stages, Owners, Waits and Way against a plain model; what follows: each player is with one team, and each team has from Least to Most.
func TestFollowPlainly(t *testing.T) {
	random := rand.New(rand.NewPCG(62, 1))
	seen := map[string]int{}
	for range 250 {
		m, o := anyMarket(random)
		l, a := anyOffers(random, o), anyAnswers(random)
		p := &paper{m, map[string]string{}, map[string]string{}, map[string]bool{}, map[string]string{}}
		for _, x := range o {
			p.where[x.Player], p.ways[x.Player] = x.Team, x.Team
		}
		for at := range 70 {
			for _, x := range l {
				if x.Time.From == at {
					p.how[x.Id] = fmt.Sprint("open ", at)
				}
			}
			for _, y := range a {
				for _, x := range l {
					if y.At == at && y.Offer == x.Id {
						p.hear(x, y.Team, y.Kind, at)
					}
				}
			}
			for _, x := range l {
				p.pass(x, at)
			}
			p.test(t, o, l, a, at)
		}
		for _, how := range p.how {
			seen[strings.Fields(how)[0]]++
		}
	}
	for _, how := range strings.Fields("done broken late refused back stopped") {
		if seen[how] < 20 {
			t.Errorf("only %d are %s", seen[how], how)
		}
	}
}

// test tests the functions at a moment.
func (p *paper) test(t *testing.T, o []api.Owner, l []api.Offer, a []api.Answer, at int) {
	t.Helper()
	var stages, all []string
	for _, x := range l {
		if p.how[x.Id] != "" {
			stages = append(stages, x.Id+" "+p.how[x.Id])
		}
	}
	for _, x := range o {
		all = append(all, x.Player+":"+p.where[x.Player])
	}
	player := o[at%len(o)].Player
	way, e := Way(p.m, l, player, o, a, at)
	equal(t, "Way", e, api.OK)
	equal(t, "Way", strings.Join(way, " "), p.ways[player])
	got, e := Stages(p.m, o, l, a, at)
	equal(t, "Stages", e, api.OK)
	equal(t, "Stages", stood(got), strings.Join(stages, ", "))
	then, e := Owners(p.m, o, l, a, at)
	equal(t, "Owners", e, api.OK)
	equal(t, "Owners", held(then), strings.Join(all, " "))
	equal(t, "Owners then", CheckOwners(p.m, then), api.OK)
	team := p.m.Teams[at%len(p.m.Teams)]
	var ids []string
	for _, x := range l {
		if p.stands(x, "open") && concerns(x, team) && team != x.By && !p.said[x.Id+" "+team+" yes"] {
			ids = append(ids, x.Id)
		}
	}
	waits, e := Waits(p.m, o, l, a, team, at)
	equal(t, "Waits", e, api.OK)
	list(t, "Waits", waits, ids)
}

// P6.2: as many owners, offers and answers as there can be.
func TestFollowMost(t *testing.T) {
	m := widest()
	m.Wait = 7
	l := manyOffers(api.MaxOffers, 1)
	for i := range l {
		player := i % api.MaxTeams
		l[i].Gives = []api.Give{{Player: key(player), From: key((player + i/api.MaxTeams) % api.MaxTeams), To: key((player + i/api.MaxTeams + 1) % api.MaxTeams)}}
		l[i].By = l[i].Gives[0].From
	}
	var a []api.Answer
	for i, x := range l {
		a = append(a, api.Answer{Offer: x.Id, Team: x.Gives[0].To, At: api.MaxOffers + i, Kind: api.AnswerYes})
	}
	for len(a) < api.MaxAnswers {
		a = append(a, api.Answer{Offer: key(0), Team: key(0), At: 10_000 + len(a), Kind: api.AnswerVeto})
	}
	stages, e := Stages(m, manyOwners(api.MaxPlayers), l, a, api.End-1)
	equal(t, "Stages", e, api.OK)
	equal(t, "Stages", len(stages), api.MaxOffers)
	for i, x := range stages {
		equal(t, "Stage", x, api.Stage{Offer: key(i), How: api.OfferDone, Since: api.MaxOffers + i + 7})
	}
	o, e := Owners(m, manyOwners(api.MaxPlayers), l, a, api.End-1)
	equal(t, "Owners", e, api.OK)
	equal(t, "Owners", len(o), api.MaxPlayers)
	for i, x := range o[:api.MaxTeams] {
		equal(t, "Owner", x, api.Owner{Player: key(i), Team: key((i + api.MaxOffers/api.MaxTeams) % api.MaxTeams)})
	}
	way, e := Way(m, l, key(0), manyOwners(api.MaxPlayers), a, api.End-1)
	equal(t, "Way", e, api.OK)
	equal(t, "Way", len(way), 1+api.MaxOffers/api.MaxTeams)
}
