package score

import (
	"math/rand/v2"
	"slices"
	"testing"

	"benchwarmer/api"
)

// P3.3: Best.
func TestBest(t *testing.T) {
	for _, x := range []struct {
		name string
		s    []api.Slot
		l    []api.Scorer
		want string
		sum  string
	}{
		{"ordinary", slots("s1 df", "s2 df,gk"), scorers("a df 5", "b df 7", "c gk 6", "d df 0 out"), "b c", "13"},
		{"no scorers", slots("s1 df", "s2 df,gk"), nil, "- -", "0"},
		{"nobody suits", slots("s1 df"), scorers("a gk 5"), "-", "0"},
		{"who did not play can have points", slots("s1 df"), scorers("a df 5 out", "b df 4"), "a", "5"},
		{"less than 0", slots("s1 df", "s2 gk"), scorers("a df -1/100", "b gk 1/100"), "- b", "1/100"},
		{"0 is not worth a player", slots("s1 df", "s2 gk"), scorers("a df 0", "b gk 1/4"), "- b", "1/4"},
		{"all 0 or less", slots("s1 df", "s2 gk"), scorers("a df 0", "b gk -3"), "- -", "0"},
		{"not the first one for the first slot", slots("s1 df,gk", "s2 df"), scorers("a df 9", "b gk 1"), "b a", "10"},
		{"the best one moves on twice", slots("s1 a,b", "s2 b,c", "s3 c"), scorers("x a 1", "y b 5", "z c 9"), "x y z", "15"},
		{"two of three", slots("s1 a", "s2 a"), scorers("x a 1", "y a 3", "z a 2"), "y z", "5"},
		{"the least one of equal ones", slots("s1 a"), scorers("x a 3", "y a 3"), "x", "3"},
		{"equal ones by slots", slots("s1 a", "s2 a"), scorers("x a 3", "y a 3", "z a 3"), "x y", "6"},
		{"the greater one must go elsewhere", slots("s1 a", "s2 a,b"), scorers("x b 3", "y a 3"), "y x", "6"},
		{"the first slots stay empty", slots("s1 a", "s2 a", "s3 a"), scorers("x a 3"), "- - x", "3"},
		{"empty ones first, then the least", slots("s1 a", "s2 a", "s3 a"), scorers("x a 3", "y a 7"), "- x y", "10"},
		{"less for the first slot, so much for all", slots("s1 a", "s2 b"), scorers("x a 5", "y a,b 5"), "x y", "10"},
		{"players by bytes", slots("s1 a"), scorers("x- a 3", "x0 a 3", "x_ a 3"), "x-", "3"},
		{"more for one than for two", slots("s1 a", "s2 a"), scorers("x a 1/4", "y a 1/5", "z a 1/2"), "x z", "3/4"},
	} {
		best, sum, e := Best(x.s, x.l)
		equal(t, x.name, e, api.OK)
		equal(t, x.name, manned(best), x.want)
		equal(t, x.name, sum, frac(x.sum))
		list(t, x.name, best, fills(x.s, x.want))
	}
	best, sum, e := Best(slots("s1 gk", "s1 gk"), nil)
	equal(t, "twice", e, api.ErrTwice)
	equal(t, "twice", sum, api.Fraction{})
	list(t, "twice", best, nil)
}

// P3.3: Best and Left against all fills that there are.
func TestBestPlainly(t *testing.T) {
	r := rand.New(rand.NewPCG(7, 8))
	for range 400 {
		g := anyGame(r)
		ways := g.all()
		// The ways come with the least list of players first.
		want := ways[0]
		for _, f := range ways {
			more := g.quarters(f) - g.quarters(want)
			if more > 0 || more == 0 && placed(f) < placed(want) {
				want = f
			}
		}
		best, sum, e := Best(g.s, g.l)
		equal(t, g.String(), e, api.OK)
		list(t, g.String(), best, want)
		equal(t, g.String(), sum.Num*4, g.quarters(want)*sum.Den)
		same, e := Sum(g.s, g.l, best, "")
		equal(t, g.String(), e, api.OK)
		equal(t, g.String(), sum, same)
		f := ways[r.IntN(len(ways))]
		left, e := Left(g.s, g.l, f)
		equal(t, g.String(), e, api.OK)
		equal(t, g.String(), left.Num*4, (g.quarters(want)-g.quarters(f))*left.Den)
	}
}

// P3.3: Best of as many slots and scorers as there can be.
func TestBestMost(t *testing.T) {
	// Each one can be in all slots, and has a point more than the one before.
	s, l := manySlots(api.MaxSlots), manyScorers(api.MaxRoster)
	best, sum, e := Best(s, l)
	equal(t, "most", e, api.OK)
	equal(t, "most", sum, frac("162"))
	for i, x := range best {
		equal(t, "most", x, api.Fill{Slot: s[i].Key, Player: key(8 + i)})
	}
	// All have equal points: the first ones are in.
	for i := range l {
		l[i].Points = frac("10000")
	}
	best, sum, e = Best(s, l)
	equal(t, "equal points", e, api.OK)
	equal(t, "equal points", sum, frac("120000"))
	for i, x := range best {
		equal(t, "equal points", x.Player, key(i))
	}
	// A chain: slot i is for positions i and i + 1, scorer i has position i alone.
	for i := range s {
		s[i].Positions = keys(api.MaxSlots + 1)[i : i+2]
	}
	l = l[:api.MaxSlots]
	for i := range l {
		l[i].Positions = []string{key(i + 1)}
		l[i].Points = api.Fraction{Num: 1 + i, Den: 1}
	}
	best, sum, e = Best(s, l)
	equal(t, "a chain", e, api.OK)
	equal(t, "a chain", sum, frac("78"))
	for i, x := range best {
		equal(t, "a chain", x.Player, key(i))
	}
}

// P3.3: Left.
func TestLeft(t *testing.T) {
	g := team()
	for _, x := range []struct {
		players, want string
		e             api.Errno
	}{
		{"ann cat bea", "0", api.OK},
		{"- - -", "35/2", api.OK},
		{"ann fay dot", "49/4", api.OK},
		{"- - dot", "71/4", api.OK},
		{"- - zoe", "", api.ErrNone},
	} {
		left, e := Left(g.s, g.l, fills(g.s, x.players))
		equal(t, x.players, e, x.e)
		want := api.Fraction{}
		if x.e == api.OK {
			want = frac(x.want)
		}
		equal(t, x.players, left, want)
	}
}

// P3.3: Can.
func TestCan(t *testing.T) {
	g := team()
	for _, x := range []struct {
		who  string
		want bool
		e    api.Errno
	}{
		{"-", true, api.OK},
		{"ann", true, api.OK},
		{"ann,bea", true, api.OK},
		{"bea,ann,cat", true, api.OK},
		{"cat,bea,ann", true, api.OK},
		{"ann,bea,dot", true, api.OK},
		{"dot,bea,ann", true, api.OK},
		{"cat,fay", false, api.OK},
		{"ann,bea,cat,dot", false, api.OK},
		{"bea,dot,eve", true, api.OK},
		{"ann,bea,cat,dot,eve,fay", false, api.OK},
		{"zoe", false, api.ErrNone},
		{"ann,", false, api.ErrNone},
		{"ann,bea,ann", false, api.ErrTwice},
		{"cat,fay,fay", false, api.ErrTwice},
		{"ann,zoe,ann", false, api.ErrNone},
		{"ann,ann,zoe", false, api.ErrTwice},
	} {
		can, e := Can(g.s, g.l, names(x.who))
		equal(t, x.who, e, x.e)
		equal(t, x.who, can, x.want)
	}
	l := manyScorers(api.MaxRoster)
	for many, want := range map[int]bool{api.MaxSlots: true, api.MaxSlots + 1: false, api.MaxRoster: false} {
		can, e := Can(manySlots(api.MaxSlots), l, keys(many))
		equal(t, "many", e, api.OK)
		equal(t, "many", can, want)
	}
	can, e := Can(manySlots(1), l, make([]string, api.MaxRoster+1))
	equal(t, "too many", e, api.ErrLarge)
	equal(t, "too many", can, false)
}

// P3.3: Lacking.
func TestLacking(t *testing.T) {
	for _, x := range []struct {
		name string
		s    []api.Slot
		l    []api.Scorer
		want string
	}{
		{"none", slots("s1 df", "s2 df,gk"), scorers("a df 1", "b gk 1"), "-"},
		{"no scorers", slots("s2 df", "s1 df,gk"), nil, "s2,s1"},
		{"the second one", slots("s1 df", "s2 df,gk"), scorers("a df 1"), "s2"},
		{"the first one, if it must be", slots("s1 df", "s2 df,gk"), scorers("c gk 1"), "s1"},
		{"the first one is filled", slots("s1 a,b", "s2 a", "s3 b"), scorers("x a 1", "y b 1"), "s3"},
		{"it does not take from the others", slots("s1 a,b", "s2 a", "s3 c"), scorers("x a 1", "y b 1", "z a 1"), "s3"},
		{"in the order of slots", slots("z a", "y a", "x a", "w b"), scorers("x b 1", "y a 1"), "y,x"},
		{"as many as possible", slots("s1 a", "s2 a,b", "s3 b"), scorers("x a,b 1", "y a 1"), "s3"},
		{"points and playing do not matter", slots("s1 a", "s2 b"), scorers("x a 0 out", "y b -7 out"), "-"},
	} {
		lacking, e := Lacking(x.s, x.l)
		equal(t, x.name, e, api.OK)
		list(t, x.name, lacking, names(x.want))
	}
	lacking, e := Lacking(slots("s1 gk"), scorers("a gk 1/3"))
	equal(t, "scorers", e, api.ErrArg)
	list(t, "scorers", lacking, nil)
}

// P3.3: Can and Lacking against all fills that there are.
func TestPlacingPlainly(t *testing.T) {
	r := rand.New(rand.NewPCG(9, 10))
	for range 400 {
		g := anyGame(r)
		var who []string
		for _, i := range r.Perm(len(g.l)) {
			if r.IntN(2) == 0 {
				who = append(who, g.l[i].Player)
			}
		}
		could := false
		var most []api.Fill
		for _, f := range g.all() {
			could = could || !slices.ContainsFunc(who, func(name string) bool { return !fielded(f, name) })
			if placed(f) > placed(most) || placed(f) == placed(most) && earlier(f, most) {
				most = f
			}
		}
		can, e := Can(g.s, g.l, who)
		equal(t, g.String(), e, api.OK)
		equal(t, g.String(), can, could)
		var want []string
		for i, slot := range g.s {
			if most == nil || most[i].Player == "" {
				want = append(want, slot.Key)
			}
		}
		lacking, e := Lacking(g.s, g.l)
		equal(t, g.String(), e, api.OK)
		list(t, g.String(), lacking, want)
	}
}

// earlier says whether of the first slot that is filled in one list only, that is the first one.
func earlier(f, other []api.Fill) bool {
	for i := range other {
		if (f[i].Player == "") != (other[i].Player == "") {
			return other[i].Player == ""
		}
	}
	return false
}
