package final

import (
	"math"
	"math/big"
	"math/rand/v2"
	"slices"
	"strings"
	"testing"

	"benchwarmer/api"
)

// P9.3: CheckWeights, which Draw, Chance and Fall ask first.
func TestCheckWeights(t *testing.T) {
	for _, x := range []struct {
		name    string
		teams   []string
		weights []int
		want    api.Errno
	}{
		{"no teams", nil, numbers("0"), api.ErrNone},
		{"one team", strings.Fields("a"), numbers("1"), api.OK},
		{"not in order of names", strings.Fields("b a"), numbers("1 1000"), api.OK},
		{"as many as there can be", keys(api.MaxLots), manyWeights(api.MaxLots), api.OK},
		{"too many", keys(api.MaxLots + 1), manyWeights(api.MaxLots + 1), api.ErrLarge},
		{"too many that are no keys", make([]string, api.MaxLots+1), nil, api.ErrLarge},
		{"empty", []string{""}, numbers("1"), api.ErrName},
		{"no key", strings.Fields("a B"), nil, api.ErrName},
		{"too long", []string{key(0) + "k"}, numbers("1"), api.ErrName},
		{"twice", strings.Fields("a b a"), nil, api.ErrTwice},
		{"twice, and no key", strings.Fields("A A"), nil, api.ErrName},
		{"twice, then no key", strings.Fields("a a B"), nil, api.ErrTwice},
		{"no weights", strings.Fields("a"), nil, api.ErrForm},
		{"too few weights", strings.Fields("a b"), numbers("0"), api.ErrForm},
		{"too many weights", strings.Fields("a b"), numbers("0 0 0"), api.ErrForm},
		{"too many weights for all", strings.Fields("a b"), make([]int, api.MaxLots+1), api.ErrForm},
		{"weight 0", strings.Fields("a b"), numbers("1 0"), api.ErrArg},
		{"weight below 0", strings.Fields("a b"), numbers("-1 1"), api.ErrArg},
		{"weight too great", strings.Fields("a b"), numbers("1 1001"), api.ErrArg},
		{"weight very great", strings.Fields("a b"), []int{math.MaxInt, 1}, api.ErrArg},
		{"weight very small", strings.Fields("a b"), []int{1, math.MinInt}, api.ErrArg},
	} {
		equal(t, x.name, CheckWeights(x.teams, x.weights), x.want)
		order, e := Draw(x.teams, x.weights, nil, 0)
		equal(t, x.name+" of Draw", e, x.want)
		equal(t, x.name+" of Draw", len(order) > 0, e == api.OK)
		if x.want != api.OK {
			_, e = Draw(x.teams, x.weights, nil, -1)
			equal(t, x.name+" of Draw", e, x.want)
			_, e = Chance(x.teams, x.weights, "x", 0, 5)
			equal(t, x.name+" of Chance", e, x.want)
			_, e = Fall(x.teams, x.weights, 5)
			equal(t, x.name+" of Fall", e, x.want)
		}
	}
}

// P9.3: Draw.
func TestDraw(t *testing.T) {
	for _, x := range []struct {
		name, teams, weights, lots, want string
	}{
		{"no lots", "a b c", "1 1 2", "", "a b c"},
		{"no lots, not in order of names", "c a b", "1 1 2", "", "c a b"},
		{"the least number", "a b c", "1 1 2", "0", "a b c"},
		{"the second one", "a b c", "1 1 2", "1", "b a c"},
		{"the last one, by its first number", "a b c", "1 1 2", "2", "c a b"},
		{"the last one, by its last number", "a b c", "1 1 2", "3", "c a b"},
		{"modulo", "a b c", "1 1 2", "4", "a b c"},
		{"modulo", "a b c", "1 1 2", "7 6", "c a b"},
		{"the next one that has no place", "a b c", "1 1 2", "0 0", "a b c"},
		{"the next one but one", "a b c d", "1 1 1 1", "1 2 1", "b c d a"},
		{"behind the last one comes the first one", "a b c d", "1 1 1 1", "3 3 3", "d a b c"},
		{"round, and on to the next one", "a b c d", "1 1 1 1", "0 3 3", "a d b c"},
		{"all places", "a b c d", "1 1 1 1", "2 0 2 2", "c a d b"},
		{"one team", "a", "7", "9", "a"},
		{"the last lot leaves one", "a b", "1 1", "1 1", "b a"},
		{"weights of 1000", "a b", "1000 1000", "999", "a b"},
		{"weights of 1000", "a b", "1000 1000", "1000", "b a"},
		{"a great number", "a b c", "1 1 1", "9223372036854775807", "b a c"},
		{"four of many", "a b c d e f g h i j k l m n", "1 2 3 4 5 6 7 8 9 10 11 12 13 14", "104 91 90 0", "n a m b c d e f g h i j k l"},
	} {
		lots := numbers(x.lots)
		order, e := Draw(strings.Fields(x.teams), numbers(x.weights), lots, len(lots))
		equal(t, x.name, e, api.OK)
		list(t, x.name, order, strings.Fields(x.want))
	}
}

// P9.3: how many places lots can give out.
func TestTop(t *testing.T) {
	for _, x := range []struct {
		teams, top int
		want       api.Errno
	}{
		{14, -1, api.ErrArg},
		{14, 0, api.OK},
		{14, 4, api.OK},
		{14, 5, api.ErrArg},
		{4, 4, api.OK},
		{3, 3, api.OK},
		{3, 4, api.ErrArg},
		{1, 1, api.OK},
		{1, 2, api.ErrArg},
		{14, math.MaxInt, api.ErrArg},
		{14, math.MinInt, api.ErrArg},
	} {
		teams, weights := keys(x.teams), manyWeights(x.teams)
		order, e := Draw(teams, weights, make([]int, max(0, min(x.top, 5))), x.top)
		equal(t, "Draw", e, x.want)
		equal(t, "Draw", len(order) > 0, e == api.OK)
		chance, e := Chance(teams, weights, key(0), 1, x.top)
		equal(t, "Chance", e, x.want)
		equal(t, "Chance", chance != api.Fraction{}, e == api.OK)
		n, e := Fall(teams, weights, x.top)
		equal(t, "Fall", e, x.want)
		if e != api.OK {
			equal(t, "Fall", n, 0)
		}
	}
}

// P9.3: errors of Draw and Chance of their own.
func TestLotsErrors(t *testing.T) {
	teams, weights := strings.Fields("a b c"), numbers("1 1 2")
	for _, x := range []struct {
		name string
		lots []int
		top  int
		want api.Errno
	}{
		{"top, then lots", numbers("-1"), 4, api.ErrArg},
		{"no lots", nil, 1, api.ErrForm},
		{"too few lots", numbers("-1"), 2, api.ErrForm},
		{"too many lots", numbers("0 -1"), 1, api.ErrForm},
		{"too many lots for all", make([]int, 100), 3, api.ErrForm},
		{"a lot for no place", numbers("0"), 0, api.ErrForm},
		{"below 0", numbers("0 -1"), 2, api.ErrArg},
		{"far below 0", []int{math.MinInt}, 1, api.ErrArg},
		{"nothing wrong", []int{0, math.MaxInt}, 2, api.OK},
	} {
		order, e := Draw(teams, weights, x.lots, x.top)
		equal(t, x.name, e, x.want)
		equal(t, x.name, len(order) > 0, e == api.OK)
	}
	for _, x := range []struct {
		name, team string
		place, top int
		want       api.Errno
	}{
		{"top, then team", "x", 0, 4, api.ErrArg},
		{"no such team", "x", 0, 3, api.ErrNone},
		{"no team", "", 1, 3, api.ErrNone},
		{"place 0", "a", 0, 3, api.ErrArg},
		{"place below 0", "a", -1, 3, api.ErrArg},
		{"place behind the last one", "a", 4, 3, api.ErrArg},
		{"a great place", "a", math.MaxInt, 3, api.ErrArg},
		{"a small place", "a", math.MinInt, 3, api.ErrArg},
		{"the last place", "c", 3, 3, api.OK},
	} {
		chance, e := Chance(teams, weights, x.team, x.place, x.top)
		equal(t, x.name, e, x.want)
		equal(t, x.name, chance != api.Fraction{}, e == api.OK)
	}
}

// P9.3: Chance.
func TestChance(t *testing.T) {
	for _, x := range []struct {
		name, teams, weights, team string
		place, top                 int
		want                       string
	}{
		{"the second one comes first", "a b", "3 1", "b", 1, 1, "1/4"},
		{"the second one stays", "a b", "3 1", "b", 2, 1, "3/4"},
		{"the first one stays", "a b", "3 1", "a", 1, 1, "3/4"},
		{"no lots, its own place", "a b", "3 1", "b", 2, 0, "1/1"},
		{"no lots, another place", "a b", "3 1", "b", 1, 0, "0/1"},
		{"first", "a b c", "1 1 2", "c", 1, 2, "1/2"},
		{"second, as it is drawn or is the next one", "a b c", "1 1 2", "a", 2, 2, "7/16"},
		{"second, behind one", "a b c", "1 1 2", "b", 2, 2, "1/4"},
		{"what is left", "a b c", "1 1 2", "a", 3, 2, "5/16"},
		{"what is left, with all lots", "a b c", "1 1 2", "a", 3, 3, "5/16"},
		{"it can't fall so far", "a b c d", "1 1 1 1", "a", 3, 1, "0/1"},
		{"it falls one place", "a b c d", "1 1 1 1", "a", 2, 1, "3/4"},
		{"it can't rise without a lot", "a b c d", "1 1 1 1", "d", 3, 1, "0/1"},
		{"one team", "a", "1000", "a", 1, 1, "1/1"},
		{"one team without lots", "a", "1000", "a", 1, 0, "1/1"},
		{"least and most", "a b", "1 1000", "a", 1, 2, "1/1001"},
	} {
		f, e := Chance(strings.Fields(x.teams), numbers(x.weights), x.team, x.place, x.top)
		equal(t, x.name, e, api.OK)
		equal(t, x.name, f, frac(x.want))
	}
}

// P9.3: as many teams as there can be, with weights as great as there can be.
func TestChanceGreatly(t *testing.T) {
	teams := keys(api.MaxLots)
	alike := slices.Repeat([]int{api.MaxWeights}, api.MaxLots)
	f, e := Chance(teams, alike, key(13), 1, 4)
	equal(t, "Chance", e, api.OK)
	equal(t, "Chance", f, frac("1/14"))
	weights := manyWeights(api.MaxLots)
	weights[0] = 1 // so all are 12910 together
	for place, want := range []string{"1/12910", "493539/83334050"} {
		f, e := Chance(teams, weights, key(0), place+1, 4)
		equal(t, "Chance", e, api.OK)
		equal(t, "Chance", f, frac(want))
	}
	for _, top := range []int{0, 4} {
		all := chances(t, teams, weights, top)
		for i, want := range plainChances(weights, top) {
			for place := range want {
				equal(t, "Chance", all[i][place], exact(&want[place]))
			}
		}
	}
}

// plainChances returns the chances of all teams for all places, from how likely each set of teams is to have the first places.
func plainChances(weights []int, top int) [][]big.Rat {
	many, sum := len(weights), 0
	chances := make([][]big.Rat, many)
	for i, w := range weights {
		chances[i] = make([]big.Rat, many)
		sum += w
	}
	sets := map[int]*big.Rat{0: big.NewRat(1, 1)}
	for place := range top {
		next := map[int]*big.Rat{}
		for set, likely := range sets {
			for i := range many {
				who := i
				for set>>who&1 == 1 {
					who = (who + 1) % many
				}
				share := new(big.Rat).Mul(likely, big.NewRat(int64(weights[i]), int64(sum)))
				chances[who][place].Add(&chances[who][place], share)
				with := set | 1<<who
				if next[with] == nil {
					next[with] = new(big.Rat)
				}
				next[with].Add(next[with], share)
			}
		}
		sets = next
	}
	for set, likely := range sets {
		place := top
		for i := range many {
			if set>>i&1 == 0 {
				chances[i][place].Add(&chances[i][place], likely)
				place++
			}
		}
	}
	return chances
}

// chances returns the chances of all teams for all places, and tests that they add up to 1 for each team, and for each place.
func chances(t *testing.T, teams []string, weights []int, top int) [][]api.Fraction {
	t.Helper()
	all := make([][]api.Fraction, len(teams))
	byPlace := make([]big.Rat, len(teams))
	for i, team := range teams {
		var sum big.Rat
		for place := range teams {
			f, e := Chance(teams, weights, team, place+1, top)
			equal(t, "Chance", e, api.OK)
			all[i] = append(all[i], f)
			sum.Add(&sum, rat(f))
			byPlace[place].Add(&byPlace[place], rat(f))
		}
		equal(t, "all places of a team", exact(&sum), frac("1"))
	}
	for place := range byPlace {
		equal(t, "all teams for a place", exact(&byPlace[place]), frac("1"))
	}
	return all
}

// plainDraw draws from a list in which each team stands as often as its weight says.
func plainDraw(teams []string, weights, lots []int) []string {
	var urn []string
	for i, team := range teams {
		urn = append(urn, slices.Repeat([]string{team}, weights[i])...)
	}
	var order []string
	for _, lot := range lots {
		at := lot % len(urn)
		for slices.Contains(order, urn[at]) {
			at = (at + 1) % len(urn)
		}
		order = append(order, urn[at])
	}
	for _, team := range teams {
		if !slices.Contains(order, team) {
			order = append(order, team)
		}
	}
	return order
}

// P9.3: Draw, Chance and Fall as in a plain model that draws all rows of numbers.
func TestLotsPlainly(t *testing.T) {
	random := rand.New(rand.NewPCG(93, 1))
	for range 60 {
		teams := strings.Fields("d b e a c")[:1+random.IntN(5)]
		top := random.IntN(min(len(teams), 4) + 1)
		var weights []int
		all := 0
		for range teams {
			w := 1 + random.IntN(3)
			weights = append(weights, w)
			all += w
		}
		rows := int64(math.Pow(float64(all), float64(top)))
		many := map[string]int64{}
		fall := 0
		for row := range rows {
			var lots []int
			for n := int(row); len(lots) < top; n /= all {
				lots = append(lots, n%all+all*random.IntN(1_000))
			}
			want := plainDraw(teams, weights, lots)
			order, e := Draw(teams, weights, lots, top)
			equal(t, "Draw", e, api.OK)
			list(t, "Draw", order, want)
			for place, team := range want {
				many[team+string(rune('1'+place))]++
				fall = max(fall, place-slices.Index(teams, team))
			}
		}
		for i, chance := range chances(t, teams, weights, top) {
			for place, f := range chance {
				equal(t, "Chance", f, exact(big.NewRat(many[teams[i]+string(rune('1'+place))], rows)))
			}
		}
		n, e := Fall(teams, weights, top)
		equal(t, "Fall", e, api.OK)
		equal(t, "Fall", n, fall)
	}
}

// P9.3: Fall.
func TestFall(t *testing.T) {
	for _, x := range []struct {
		teams, top, want int
	}{
		{1, 0, 0}, {1, 1, 0}, {2, 0, 0}, {2, 1, 1}, {2, 2, 1}, {3, 2, 2}, {3, 3, 2},
		{4, 3, 3}, {4, 4, 3}, {5, 4, 4}, {14, 0, 0}, {14, 1, 1}, {14, 3, 3}, {14, 4, 4},
	} {
		n, e := Fall(keys(x.teams), manyWeights(x.teams), x.top)
		equal(t, "Fall", e, api.OK)
		equal(t, "Fall", n, x.want)
	}
}

// P9.3: Snake.
func TestSnake(t *testing.T) {
	for _, x := range []struct {
		order  string
		rounds int
		want   string
	}{
		{"a b", 1, "a b"},
		{"a b", 2, "a b b a"},
		{"c a b", 3, "c a b b a c c a b"},
		{"c a b", 4, "c a b b a c c a b b a c"},
		{"d c b a", 2, "d c b a a b c d"},
	} {
		turns, e := Snake(strings.Fields(x.order), x.rounds)
		equal(t, x.order, e, api.OK)
		list(t, x.order, turns, strings.Fields(x.want))
	}
	many := keys(api.MaxTeams)
	back := slices.Clone(many)
	slices.Reverse(back)
	turns, e := Snake(many, api.MaxRoster)
	equal(t, "many", e, api.OK)
	list(t, "many", turns, slices.Repeat(slices.Concat(many, back), api.MaxRoster/2))
}

// P9.3: errors of Snake; those of CheckSeeds come first.
func TestSnakeErrors(t *testing.T) {
	for _, x := range []struct {
		order  string
		rounds int
		want   api.Errno
	}{
		{"a", 0, api.ErrNone},
		{"a a", 0, api.ErrTwice},
		{"a b", 0, api.ErrArg},
		{"a b", -1, api.ErrArg},
		{"a b", api.MaxRoster, api.OK},
		{"a b", api.MaxRoster + 1, api.ErrArg},
		{"a b", math.MaxInt, api.ErrArg},
		{"a b", math.MinInt, api.ErrArg},
	} {
		turns, e := Snake(strings.Fields(x.order), x.rounds)
		equal(t, x.order, e, x.want)
		equal(t, x.order, len(turns) > 0, e == api.OK)
	}
}
