package final

import (
	"cmp"
	"math/big"
	"math/rand/v2"
	"slices"
	"strings"
	"testing"

	"benchwarmer/api"
)

// P9.1: CheckSeeds, which Play and Snake ask first.
func TestCheckSeeds(t *testing.T) {
	for _, x := range []struct {
		name  string
		seeds []string
		want  api.Errno
	}{
		{"none", nil, api.ErrNone},
		{"one", strings.Fields("a"), api.ErrNone},
		{"one that is no key", strings.Fields("A"), api.ErrNone},
		{"two", strings.Fields("a b"), api.OK},
		{"falling", strings.Fields("c b a"), api.OK},
		{"as many as there can be", keys(api.MaxTeams), api.OK},
		{"too many", keys(api.MaxTeams + 1), api.ErrLarge},
		{"too many that are no keys", make([]string, api.MaxTeams+1), api.ErrLarge},
		{"empty", []string{"a", ""}, api.ErrName},
		{"no key", strings.Fields("A b"), api.ErrName},
		{"no key at the end", strings.Fields("a b 1"), api.ErrName},
		{"as long as it can be", []string{"a", key(0)}, api.OK},
		{"too long", []string{"a", key(0) + "k"}, api.ErrName},
		{"twice", strings.Fields("a a"), api.ErrTwice},
		{"twice, far apart", strings.Fields("a b c a"), api.ErrTwice},
		{"twice, and no key", strings.Fields("A A"), api.ErrName},
		{"twice, then no key", strings.Fields("a a B"), api.ErrTwice},
		{"no key, then twice", strings.Fields("a B a"), api.ErrName},
	} {
		equal(t, x.name, CheckSeeds(x.seeds), x.want)
		_, e := Snake(x.seeds, 1)
		equal(t, x.name+" of Snake", e, x.want)
		if x.want != api.OK {
			_, e = Play(x.seeds, nil)
			equal(t, x.name+" of Play", e, x.want)
		}
	}
}

// P9.2: Play.
func TestPlay(t *testing.T) {
	for _, x := range []struct {
		name, seeds, rounds, want string
	}{
		{"two", "a b", "a", "a b"},
		{"two, the other way round", "a b", "b", "b a"},
		{"three", "a b c", "a c,c", "c a b"},
		{"three, the first one wins", "a b c", "a b,a", "a b c"},
		{"four", "a b c d", "a b,a", "a b c d"},
		{"four, the last one wins", "a b c d", "d c,d", "d c a b"},
		{"losers by seed, not by game", "a b c d", "d b,b", "b d a c"},
		{"six", "a b c d e f", "a e b f,e f,f", "f e a b c d"},
		{"six, the best ones", "a b c d e f", "a d b c,a b,b", "b a c d e f"},
		{"eight", "a b c d e f g h", "h d g c,d c,c", "c d g h a b e f"},
		{"names do not matter", "z y x w", "w x,x", "x w z y"},
		{"a name that another one begins with", "aa a aaa", "aa aaa,aaa", "aaa aa a"},
	} {
		reached, e := Play(strings.Fields(x.seeds), rounds(x.rounds))
		equal(t, x.name, e, api.OK)
		list(t, x.name, reached, strings.Fields(x.want))
	}
}

// P9.2: errors of Play.
func TestPlayErrors(t *testing.T) {
	for _, x := range []struct {
		name, seeds string
		rounds      [][]string
		want        api.Errno
	}{
		{"seeds", "a A", nil, api.ErrName},
		{"no rounds", "a b", nil, api.ErrForm},
		{"too many rounds", "a b", rounds("a,a"), api.ErrForm},
		{"too few rounds", "a b c", rounds("a b"), api.ErrForm},
		{"too few rounds, of names that there are not", "a b c", rounds("x y"), api.ErrForm},
		{"a round without winners", "a b", [][]string{nil}, api.ErrForm},
		{"too few winners", "a b c d", rounds("a,a"), api.ErrForm},
		{"too many winners", "a b c d", rounds("a b c,a"), api.ErrForm},
		{"too many winners, who are not there", "a b c d", rounds("x y z,a"), api.ErrForm},
		{"nobody for whom there was no game", "a b c", rounds("b,b"), api.ErrForm},
		{"too few winners at the end", "a b c d", rounds("a b,"), api.ErrForm},
		{"too many winners at the end", "a b c d", rounds("a b,a b"), api.ErrForm},
		{"of another game", "a b c d", rounds("b a,a"), api.ErrNone},
		{"out already", "a b c d", rounds("a b,c"), api.ErrNone},
		{"out in its first game", "a b c d", rounds("a b,d"), api.ErrNone},
		{"who is not there", "a b c d", rounds("a x,a"), api.ErrNone},
		{"an empty name", "a b", [][]string{{""}}, api.ErrNone},
		{"an empty name where one has no game", "a b c", [][]string{{"", "b"}, {"b"}}, api.ErrNone},
		{"another one where one has no game", "a b c", rounds("c b,b"), api.ErrNone},
		{"twice", "a b c d", rounds("a a,a"), api.ErrNone},
		{"a wrong winner, then too few of them", "a b c d", rounds("b a,"), api.ErrNone},
		{"too few winners, then a wrong one", "a b c d", rounds("a,x"), api.ErrForm},
		{"nothing wrong", "a b c d", rounds("a b,a"), api.OK},
	} {
		reached, e := Play(strings.Fields(x.seeds), x.rounds)
		equal(t, x.name, e, x.want)
		equal(t, x.name, len(reached) > 0, e == api.OK)
	}
}

// P9.2: Play as in a plain model of brackets at random: who is out is behind all who are still in, and of those who are out together the better seed comes first.
func TestPlayPlainly(t *testing.T) {
	random := rand.New(rand.NewPCG(92, 1))
	for range 500 {
		many := 2 + random.IntN(api.MaxTeams-1)
		seeds := keys(many)
		random.Shuffle(many, func(i, j int) { seeds[i], seeds[j] = seeds[j], seeds[i] })
		wins := map[string]int{}
		var all [][]string
		g, e := First(many)
		for len(g) > 0 && e == api.OK {
			var winners []int
			var names []string
			for _, x := range g {
				winner := x.High
				if x.Low > 0 && random.IntN(2) == 0 {
					winner = x.Low
				}
				winners = append(winners, winner)
				names = append(names, seeds[winner-1])
				wins[seeds[winner-1]]++
			}
			all = append(all, names)
			if len(winners) == 1 {
				break
			}
			g, e = Fixed(many, winners)
		}
		equal(t, "Fixed", e, api.OK)
		want := slices.Clone(seeds)
		slices.SortStableFunc(want, func(a, b string) int { return cmp.Compare(wins[b], wins[a]) })
		reached, e := Play(seeds, all)
		equal(t, "Play", e, api.OK)
		list(t, "Play", reached, want)
	}
}

// P9.2: Legs.
func TestLegs(t *testing.T) {
	for _, x := range []struct {
		a, b string
		want int
	}{
		{"", "", 0},
		{"1", "0", 1},
		{"0", "1", -1},
		{"0", "0", 0},
		{"1/2 1/2", "1 0", 0},
		{"1/2 1/2", "1 1/100", -1},
		{"1/2 51/100", "1 0", 1},
		{"3/4 1/4", "1/5 4/5", 0},
		{"99/100", "1", -1},
		{"-1", "-2", 1},
		{"-1/2 -1/2", "-1 0", 0},
		{"5 -5", "1 -1", 0},
		{"5 -5 1/20", "1 -1 1/25", 1},
		{"1 1 1 1 1 1 1 1", "0 0 0 0 0 0 0 8", 0},
		{"1 1 1 1 1 1 1 1", "0 0 0 0 0 0 0 801/100", -1},
		{"1000000 1000000 1000000 1000000 1000000 1000000 1000000 1000000", "1000000 1000000 1000000 1000000 1000000 1000000 1000000 99999999/100", 1},
		{"-1000000", "1000000", -1},
	} {
		n, e := Legs(fracs(x.a), fracs(x.b))
		equal(t, x.a, e, api.OK)
		equal(t, x.a, n, x.want)
	}
}

// P9.2: errors of Legs.
func TestLegsErrors(t *testing.T) {
	many := slices.Repeat(fracs("1"), api.MaxLegs+1)
	for _, x := range []struct {
		name string
		a, b []api.Fraction
		want api.Errno
	}{
		{"only the first team", fracs("1"), nil, api.ErrForm},
		{"only the second team", nil, fracs("1"), api.ErrForm},
		{"not as many", fracs("1 1"), fracs("1"), api.ErrForm},
		{"not as many, and too many", many, many[1:], api.ErrForm},
		{"too many", many, many, api.ErrLarge},
		{"too many that are wrong", make([]api.Fraction, api.MaxLegs+1), many, api.ErrLarge},
		{"as many as there can be", append(many[2:], frac("2")), many[1:], api.OK},
		{"no fraction", make([]api.Fraction, 1), fracs("1"), api.ErrForm},
		{"no fraction of the second team", fracs("1"), make([]api.Fraction, 1), api.ErrForm},
		{"not in lowest terms", fracs("2/4"), fracs("1"), api.ErrForm},
		{"0 not in lowest terms", fracs("0/2"), fracs("1"), api.ErrForm},
		{"below 0", fracs("1/-2"), fracs("1"), api.ErrForm},
		{"too much", fracs("1000001"), fracs("1"), api.ErrArg},
		{"a little too much", fracs("100000001/100"), fracs("1"), api.ErrArg},
		{"too little", fracs("1"), fracs("-1000001"), api.ErrArg},
		{"thirds", fracs("1/3"), fracs("1"), api.ErrArg},
		{"of more than hundredths", fracs("1"), fracs("1/200"), api.ErrArg},
		{"the range of the first team, then the form", fracs("1/3 2/4"), fracs("1 1"), api.ErrArg},
		{"the form, then the range", fracs("2/4 1/3"), fracs("1 1"), api.ErrForm},
		{"the range of the first team, the form of the second one", fracs("1 1/3"), fracs("2/4 1"), api.ErrArg},
		{"the form of the first team, the range of the second one", fracs("1 2/4"), fracs("1/3 1"), api.ErrForm},
	} {
		n, e := Legs(x.a, x.b)
		equal(t, x.name, e, x.want)
		equal(t, x.name, n != 0, e == api.OK)
	}
}

// P9.2: Legs as in a plain model; what one team wins the other one loses.
func TestLegsPlainly(t *testing.T) {
	random := rand.New(rand.NewPCG(92, 2))
	words := strings.Fields("0 1 -1 1/2 1/4 3/4 1/5 -7/100 1/20 13/25")
	for range 1_000 {
		many := random.IntN(api.MaxLegs + 1)
		var both [2][]api.Fraction
		var sums [2]big.Rat
		for i := range both {
			for range many {
				x := frac(words[random.IntN(len(words))])
				both[i] = append(both[i], x)
				sums[i].Add(&sums[i], rat(x))
			}
		}
		n, e := Legs(both[0], both[1])
		equal(t, "Legs", e, api.OK)
		equal(t, "Legs", n, sums[0].Cmp(&sums[1]))
		turned, e := Legs(both[1], both[0])
		equal(t, "Legs", e, api.OK)
		equal(t, "Legs turned round", turned, -n)
	}
}
