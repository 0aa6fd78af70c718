package score

import (
	"math"
	"math/rand/v2"
	"slices"
	"testing"

	"benchwarmer/api"
)

// positionErrors are lists of positions, with what is wrong with them.
func positionErrors() map[api.Errno][][]string {
	return map[api.Errno][][]string{
		api.OK:       {{"gk"}, {"df", "gk"}, {"a-", "a0", "a_", "aa"}, keys(api.MaxPositions)},
		api.ErrNone:  {nil, {}},
		api.ErrLarge: {keys(api.MaxPositions + 1), make([]string, api.MaxPositions+1)},
		api.ErrName:  {{""}, {"Gk"}, {"df", "the gk"}, {key(0) + "k"}},
		api.ErrOrder: {{"gk", "gk"}, {"gk", "df", "Gk"}},
	}
}

// P3.3: CheckSlots.
func TestCheckSlots(t *testing.T) {
	for _, x := range []struct {
		name string
		s    []api.Slot
		want api.Errno
	}{
		{"none", nil, api.ErrNone},
		{"ordinary", slots("s1 df", "s2 df,gk"), api.OK},
		{"in any order", slots("b gk", "a gk", "c df"), api.OK},
		{"most", manySlots(api.MaxSlots), api.OK},
		{"too many", manySlots(api.MaxSlots + 1), api.ErrLarge},
		{"too many, and wrong", make([]api.Slot, api.MaxSlots+1), api.ErrLarge},
		{"nothing", []api.Slot{{}}, api.ErrName},
		{"no key", slots("S1 -"), api.ErrName},
		{"too long", slots(key(0) + "k -"), api.ErrName},
		{"twice", slots("a gk", "b gk", "a -"), api.ErrTwice},
		{"first one first", slots("a gk", "a gk", "A gk"), api.ErrTwice},
		{"first one's positions first", slots("a gk", "b -", "a gk"), api.ErrNone},
	} {
		equal(t, x.name, CheckSlots(x.s), x.want)
	}
	for want, lists := range positionErrors() {
		for _, positions := range lists {
			equal(t, "positions", CheckSlots([]api.Slot{{Key: "a", Positions: positions}}), want)
		}
	}
}

// P3.3: CheckScorers.
func TestCheckScorers(t *testing.T) {
	for _, x := range []struct {
		name string
		l    []api.Scorer
		want api.Errno
	}{
		{"none", nil, api.OK},
		{"ordinary", scorers("ann df,gk 37/5", "bea df -1/4 out", "cat mf 0"), api.OK},
		{"by bytes", scorers("a- gk 1", "a0 gk 1", "a_ gk 1", "aa gk 1"), api.OK},
		{"most", manyScorers(api.MaxRoster), api.OK},
		{"too many", manyScorers(api.MaxRoster + 1), api.ErrLarge},
		{"too many, and wrong", make([]api.Scorer, api.MaxRoster+1), api.ErrLarge},
		{"nothing", []api.Scorer{{}}, api.ErrName},
		{"no key", scorers("b gk 1", "A - 2/4"), api.ErrName},
		{"falling", scorers("b gk 1", "a - 2/4"), api.ErrOrder},
		{"twice", scorers("b gk 1", "b - 2/4"), api.ErrOrder},
		{"positions before points", scorers("a - 2/4"), api.ErrNone},
		{"greatest points", scorers("a gk 10000"), api.OK},
		{"least points", scorers("a gk -10000"), api.OK},
		{"no lowest terms", scorers("a gk 2/4"), api.ErrForm},
		{"nothing over nothing", []api.Scorer{{Player: "a", Positions: names("gk")}}, api.ErrForm},
		{"nothing over two", scorers("a gk 0/2"), api.ErrForm},
		{"den below 0", scorers("a gk 1/-1"), api.ErrForm},
		{"no lowest terms, and too great", scorers("a gk 20002/2"), api.ErrForm},
		{"thirds", scorers("a gk 1/3"), api.ErrArg},
		{"points too great", scorers("a gk 1000001/100"), api.ErrArg},
		{"points too small", scorers("a gk -10001"), api.ErrArg},
		{"least int", []api.Scorer{{Player: "a", Positions: names("gk"), Points: api.Fraction{Num: math.MinInt, Den: 1}}}, api.ErrArg},
		{"first one first", scorers("a gk 1/3", "A gk 1"), api.ErrArg},
	} {
		equal(t, x.name, CheckScorers(x.l), x.want)
	}
	for want, lists := range positionErrors() {
		for _, positions := range lists {
			equal(t, "positions", CheckScorers([]api.Scorer{{Player: "a", Positions: positions, Points: frac("1")}}), want)
		}
	}
}

// team is a game with which most tests are done.
func team() game {
	return game{
		slots("s1 df", "s2 df,gk", "s3 mf"),
		scorers("ann df 5", "bea df,mf 13/2", "cat gk 6 out", "dot mf -1/4", "eve gk 0 out", "fay gk,st 1/2"),
	}
}

// P3.3: CheckFills.
func TestCheckFills(t *testing.T) {
	g := team()
	for _, x := range []struct {
		name, players string
		want          api.Errno
	}{
		{"nobody", "- - -", api.OK},
		{"all", "ann cat bea", api.OK},
		{"the other way round", "bea ann dot", api.OK},
		{"some", "- fay -", api.OK},
		{"none", "", api.ErrForm},
		{"too few", "ann cat", api.ErrForm},
		{"an unknown one", "ann cat zoe", api.ErrNone},
		{"no key", "ann cat The.Bea", api.ErrNone},
		{"one before the others", "aaa cat bea", api.ErrNone},
		{"twice", "ann ann dot", api.ErrTwice},
		{"twice, in no position", "ann bea ann", api.ErrTwice},
		{"no position", "cat - -", api.ErrType},
		{"another position", "ann dot -", api.ErrType},
		{"first one first", "cat zoe -", api.ErrType},
		{"twice first", "bea - bea", api.ErrTwice},
	} {
		equal(t, x.name, CheckFills(g.s, g.l, fills(g.s, x.players)), x.want)
	}
	fine := fills(g.s, "ann cat bea")
	equal(t, "too many", CheckFills(g.s, g.l, append(slices.Clone(fine), fine[0])), api.ErrForm)
	equal(t, "far too many", CheckFills(g.s, g.l, make([]api.Fill, 200_000)), api.ErrForm)
	equal(t, "another order", CheckFills(g.s, g.l, []api.Fill{fine[1], fine[0], fine[2]}), api.ErrNone)
	wrong := slices.Clone(fine)
	wrong[2] = api.Fill{Slot: "s1", Player: "ann"}
	equal(t, "a slot twice", CheckFills(g.s, g.l, wrong), api.ErrNone)
	wrong[2] = api.Fill{Slot: "", Player: ""}
	equal(t, "no slot", CheckFills(g.s, g.l, wrong), api.ErrNone)
	equal(t, "no scorers", CheckFills(g.s, nil, fills(g.s, "- - -")), api.OK)
	equal(t, "slots first", CheckFills(nil, scorers("a - 1"), nil), api.ErrNone)
	equal(t, "then scorers", CheckFills(g.s, scorers("A gk 1"), nil), api.ErrName)
}

// P3.3: who is in slots is right if they are among all fills that there are, otherwise wrong.
func TestCheckFillsPlainly(t *testing.T) {
	r := rand.New(rand.NewPCG(3, 4))
	for range 100 {
		g := anyGame(r)
		ways := g.all()
		for range 30 {
			f := slices.Clone(ways[0])
			for i := range f {
				f[i].Player = []string{"", "a", "b", "c", "d", "e"}[r.IntN(6)]
			}
			right := slices.ContainsFunc(ways, func(way []api.Fill) bool { return slices.Equal(way, f) })
			equal(t, g.String()+manned(f), CheckFills(g.s, g.l, f) == api.OK, right)
		}
	}
}

// P3.3: Sum.
func TestSum(t *testing.T) {
	g := team()
	for _, x := range []struct {
		players, captain string
		want             string
		e                api.Errno
	}{
		{"ann cat bea", "", "35/2", api.OK},
		{"ann cat bea", "ann", "45/2", api.OK},
		{"ann cat bea", "bea", "24", api.OK},
		{"ann fay dot", "", "21/4", api.OK},
		{"ann fay dot", "dot", "5", api.OK},
		{"- - dot", "dot", "-1/2", api.OK},
		{"- eve -", "eve", "0", api.OK},
		{"- - -", "", "0", api.OK},
		{"ann cat -", "", "11", api.OK},
		{"ann cat -", "bea", "", api.ErrNone},
		{"ann cat bea", "zoe", "", api.ErrNone},
		{"ann cat bea", "The Captain", "", api.ErrNone},
		{"- - -", "ann", "", api.ErrNone},
		{"ann ann -", "zoe", "", api.ErrTwice},
	} {
		p, e := Sum(g.s, g.l, fills(g.s, x.players), x.captain)
		equal(t, x.players+" with "+x.captain, e, x.e)
		want := api.Fraction{}
		if x.e == api.OK {
			want = frac(x.want)
		}
		equal(t, x.players+" with "+x.captain, p, want)
	}
	// As much as there can be.
	l := manyScorers(api.MaxSlots)
	for i := range l {
		l[i].Points = frac("999999/100")
	}
	var f []api.Fill
	for i, slot := range manySlots(api.MaxSlots) {
		f = append(f, api.Fill{Slot: slot.Key, Player: l[i].Player})
	}
	p, e := Sum(manySlots(api.MaxSlots), l, f, l[3].Player)
	equal(t, "most", e, api.OK)
	equal(t, "most", p, frac("12999987/100"))
}

// P3.3: Bench.
func TestBench(t *testing.T) {
	g := team()
	for _, x := range []struct {
		players, want string
		e             api.Errno
	}{
		{"ann cat bea", "dot,eve,fay", api.OK},
		{"bea fay dot", "ann,cat,eve", api.OK},
		{"- - -", "ann,bea,cat,dot,eve,fay", api.OK},
		{"- eve -", "ann,bea,cat,dot,fay", api.OK},
		{"ann cat ann", "-", api.ErrTwice},
	} {
		bench, e := Bench(g.s, g.l, fills(g.s, x.players))
		equal(t, x.players, e, x.e)
		list(t, x.players, bench, names(x.want))
	}
	bench, e := Bench(g.s, g.l[:1], fills(g.s, "ann - -"))
	equal(t, "all are in slots", e, api.OK)
	list(t, "all are in slots", bench, nil)
}

// P3.4: Subbed.
func TestSubbed(t *testing.T) {
	g := game{
		slots("s1 df", "s2 df,gk", "s3 mf", "s4 gk,mf"),
		scorers("ann df 5", "bea df,mf 13/2", "cat gk 6 out", "dot mf -1/4", "eve gk 0 out", "fay gk,st 1/2", "gin df 0 out", "hal mf 0 out", "ivy mf 3"),
	}
	for _, x := range []struct {
		name, players, bench, want string
		e                          api.Errno
	}{
		{"nobody on the bench", "gin cat hal eve", "-", "gin cat hal eve", api.OK},
		{"all did play", "ann fay bea dot", "ivy", "ann fay bea dot", api.OK},
		{"one did not", "gin fay bea dot", "ivy,ann", "ann fay bea dot", api.OK},
		{"the first one who can", "gin fay ivy dot", "bea,ann", "bea fay ivy dot", api.OK},
		{"in the order of the bench", "gin fay ivy dot", "ann,bea", "ann fay ivy dot", api.OK},
		{"each once", "gin cat hal eve", "bea,ann", "bea ann hal eve", api.OK},
		{"slot by slot", "gin cat hal eve", "ivy,ann,bea,dot", "ann bea ivy dot", api.OK},
		{"an empty slot", "- - - -", "fay,ann", "ann fay - -", api.OK},
		{"an empty slot, later", "ann - bea -", "dot", "ann - bea dot", api.OK},
		{"who did not play either", "gin - hal -", "cat,eve", "gin - hal -", api.OK},
		{"only for a position", "gin fay hal -", "ivy", "gin fay ivy -", api.OK},
		{"who went out does not come back", "gin - - -", "ann,hal,cat", "ann - - -", api.OK},
		{"points do not matter", "ann fay hal -", "dot,ivy", "ann fay dot ivy", api.OK},
		{"unknown", "gin fay bea dot", "ivy,zoe", "", api.ErrNone},
		{"nobody", "gin fay - dot", "ivy,", "", api.ErrNone},
		{"twice", "gin fay bea dot", "ivy,ann,ivy", "", api.ErrTwice},
		{"in a slot", "gin fay bea dot", "ann,fay", "", api.ErrConflict},
		{"in a slot, but did not play", "gin fay bea dot", "ann,gin", "", api.ErrConflict},
		{"first one first", "gin fay bea dot", "fay,fay,zoe", "", api.ErrConflict},
		{"unknown first", "gin fay bea dot", "zoe,fay", "", api.ErrNone},
		{"fills first", "gin gin bea dot", "zoe", "", api.ErrTwice},
	} {
		subbed, e := Subbed(g.s, g.l, fills(g.s, x.players), names(x.bench))
		equal(t, x.name, e, x.e)
		equal(t, x.name, manned(subbed), x.want)
		if e == api.OK {
			equal(t, x.name+": fills", CheckFills(g.s, g.l, subbed), api.OK)
		}
	}
	for many, want := range map[int]api.Errno{api.MaxRoster: api.ErrNone, api.MaxRoster + 1: api.ErrLarge, 200_000: api.ErrLarge} {
		_, e := Subbed(g.s, g.l, fills(g.s, "- - - -"), make([]string, many))
		equal(t, "a long bench", e, want)
	}
	l := manyScorers(api.MaxRoster)
	_, e := Subbed(slots("s "+key(0)), l, []api.Fill{{Slot: "s"}}, keys(api.MaxRoster))
	equal(t, "the longest bench", e, api.OK)
}

// P3.4: what follows for sums.
func TestSubbedPlainly(t *testing.T) {
	r := rand.New(rand.NewPCG(5, 6))
	changed := 0
	for range 300 {
		g := anyGame(r)
		for i := range g.l {
			if !g.l[i].Played {
				g.l[i].Points = frac("0")
			}
		}
		ways := g.all()
		f := ways[r.IntN(len(ways))]
		bench, e := Bench(g.s, g.l, f)
		equal(t, "Bench", e, api.OK)
		bench = slices.DeleteFunc(bench, func(name string) bool {
			return slices.ContainsFunc(g.l, func(x api.Scorer) bool { return x.Player == name && x.Points.Num < 0 })
		})
		r.Shuffle(len(bench), func(i, j int) { bench[i], bench[j] = bench[j], bench[i] })
		subbed, e := Subbed(g.s, g.l, f, bench)
		equal(t, "Subbed", e, api.OK)
		equal(t, g.String(), g.quarters(subbed) >= g.quarters(f), true)
		equal(t, g.String(), CheckFills(g.s, g.l, subbed), api.OK)
		again, e := Subbed(g.s, g.l, subbed, slices.DeleteFunc(bench, func(name string) bool {
			return slices.ContainsFunc(subbed, func(x api.Fill) bool { return x.Player == name })
		}))
		equal(t, "again", e, api.OK)
		list(t, "again", again, subbed)
		if !slices.Equal(subbed, f) {
			changed++
		}
	}
	equal(t, "some are put in", changed > 50, true)
}
