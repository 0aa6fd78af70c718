package final

import (
	"math"
	"slices"
	"testing"

	"benchwarmer/api"
)

// P9.1: First.
func TestFirst(t *testing.T) {
	for many, want := range map[int]string{
		2:  "1:2",
		3:  "1 2:3",
		4:  "1:4 2:3",
		5:  "1 4:5 2 3",
		6:  "1 4:5 2 3:6",
		7:  "1 4:5 2:7 3:6",
		8:  "1:8 4:5 2:7 3:6",
		9:  "1 8:9 4 5 2 7 3 6",
		13: "1 8:9 4:13 5:12 2 7:10 3 6:11",
		16: "1:16 8:9 4:13 5:12 2:15 7:10 3:14 6:11",
		17: "1 16:17 8 9 4 13 5 12 2 15 7 10 3 14 6 11",
		20: "1 16:17 8 9 4 13:20 5 12 2 15:18 7 10 3 14:19 6 11",
	} {
		g, e := First(many)
		equal(t, "First", e, api.OK)
		list(t, "First", g, games(want))
	}
}

// P9.1: in the next round of a bracket in which the better seeds win, the first round of one with half as many places is played.
func TestFirstOfBetterSeeds(t *testing.T) {
	for many := 3; many <= api.MaxTeams; many++ {
		g, e := First(many)
		equal(t, "First", e, api.OK)
		var better, all []int
		for _, x := range g {
			better = append(better, x.High)
			all = append(all, x.High)
			if x.Low > 0 {
				equal(t, "the seeds of a game", x.High+x.Low, 2*len(g)+1)
				all = append(all, x.Low)
			}
		}
		slices.Sort(all)
		list(t, "seeds", all, upTo(many))
		next, e := Fixed(many, better)
		equal(t, "Fixed", e, api.OK)
		want, e := First(len(g))
		equal(t, "First", e, api.OK)
		list(t, "Fixed", next, want)
	}
}

// upTo returns the numbers from 1 on, up to one.
func upTo(most int) []int {
	var l []int
	for i := range most {
		l = append(l, i+1)
	}
	return l
}

// P9.1: Fixed.
func TestFixed(t *testing.T) {
	for _, x := range []struct {
		many          int
		winners, want string
	}{
		{3, "1 2", "1:2"},
		{3, "1 3", "1:3"},
		{4, "4 3", "3:4"},
		{4, "4 2", "2:4"},
		{6, "1 5 2 3", "1:5 2:3"},
		{6, "1 4 2 6", "1:4 2:6"},
		{6, "5 6", "5:6"},
		{6, "4 2", "2:4"},
		{8, "8 5 7 6", "5:8 6:7"},
		{8, "8 7", "7:8"},
		{16, "16 9 13 12 15 10 14 11", "9:16 12:13 10:15 11:14"},
		{16, "9 12 15 11", "9:12 11:15"},
		{20, "1 17 8 9 4 20 5 12 2 18 7 10 3 19 6 11", "1:17 8:9 4:20 5:12 2:18 7:10 3:19 6:11"},
		{20, "17 20 18 19", "17:20 18:19"},
		{20, "12 11", "11:12"},
	} {
		g, e := Fixed(x.many, numbers(x.winners))
		equal(t, x.winners, e, api.OK)
		list(t, x.winners, g, games(x.want))
	}
}

// P9.1: errors of Fixed.
func TestFixedErrors(t *testing.T) {
	for _, x := range []struct {
		name    string
		many    int
		winners []int
		want    api.Errno
	}{
		{"seeds", 1, upTo(21), api.ErrArg},
		{"seeds", 21, nil, api.ErrArg},
		{"too many", 20, make([]int, api.MaxTeams+1), api.ErrLarge},
		{"too many", 2, upTo(32), api.ErrLarge},
		{"as many as there can be, but no power of two", 20, upTo(api.MaxTeams), api.ErrForm},
		{"none", 8, nil, api.ErrForm},
		{"one", 8, numbers("1"), api.ErrForm},
		{"one of two", 2, numbers("1"), api.ErrForm},
		{"two of two", 2, numbers("1 2"), api.ErrForm},
		{"three", 8, numbers("1 4 2"), api.ErrForm},
		{"as many as there are places", 4, numbers("1 4 2 3"), api.ErrForm},
		{"more than half of the places", 8, numbers("1 8 4 5 2 7 3 6"), api.ErrForm},
		{"six", 16, numbers("1 8 4 5 2 7"), api.ErrForm},
		{"no power of two, and no seeds", 8, numbers("0 9 0"), api.ErrForm},
		{"half of the places", 5, numbers("1 4 2 3"), api.OK},
		{"0", 8, numbers("0 2"), api.ErrArg},
		{"less than 0", 8, numbers("1 -1"), api.ErrArg},
		{"a seed that there is not", 6, numbers("1 7"), api.ErrArg},
		{"in place of one who had no game", 6, numbers("8 5 2 3"), api.ErrArg},
		{"a great number", 8, []int{1, math.MaxInt}, api.ErrArg},
		{"a great number below 0", 8, []int{math.MinInt, 2}, api.ErrArg},
		{"the last seed", 6, numbers("1 6"), api.OK},
		{"twice", 8, numbers("1 1"), api.ErrTwice},
		{"twice, far apart", 8, numbers("1 4 2 1"), api.ErrTwice},
		{"in the part of another game", 8, numbers("1 4 3 2"), api.ErrConflict},
		{"the other one of both", 8, numbers("2 1"), api.ErrConflict},
		{"of the game before", 8, numbers("1 8 2 3"), api.ErrConflict},
		{"of the game behind", 8, numbers("4 5 2 3"), api.ErrConflict},
		{"of the other half", 8, numbers("1 5 2 8"), api.ErrConflict},
		{"of the same half", 8, numbers("1 4"), api.ErrConflict},
		{"one of a game, in a round behind", 8, numbers("5 6"), api.OK},
		{"in the wrong part, then twice", 8, numbers("1 2 2 3"), api.ErrConflict},
		{"twice, then no seed", 8, numbers("1 1 0 3"), api.ErrTwice},
		{"no seed, then twice", 8, numbers("9 9 2 3"), api.ErrArg},
	} {
		g, e := Fixed(x.many, x.winners)
		equal(t, x.name, e, x.want)
		equal(t, x.name, len(g) > 0, e == api.OK)
	}
}

// P9.1: Fixed takes one winner of each part, whoever it is, and no other ones.
func TestFixedPlainly(t *testing.T) {
	for many := 3; many <= api.MaxTeams; many++ {
		all := flat(many)
		for n := 2; n <= len(all)/2; n *= 2 {
			size := len(all) / n
			for i, seed := range all {
				if seed > many {
					continue
				}
				winners := make([]int, n)
				for part := range winners {
					winners[part] = slices.Min(all[part*size : (part+1)*size])
				}
				winners[i/size] = seed
				_, e := Fixed(many, winners)
				equal(t, "Fixed", e, api.OK)
				other := (i/size + 1) % n
				winners[i/size], winners[other] = winners[other], seed
				_, e = Fixed(many, winners)
				equal(t, "Fixed of two that are exchanged", e, api.ErrConflict)
			}
		}
	}
}

// flat returns the list of places as the chapter says it.
func flat(many int) []int {
	if many == 1 {
		return []int{1}
	}
	half := flat((many + 1) / 2)
	var all []int
	for _, p := range half {
		all = append(all, p, 2*len(half)+1-p)
	}
	return all
}

// P9.1: Anew.
func TestAnew(t *testing.T) {
	for _, x := range []struct {
		left, want string
	}{
		{"1 2", "1:2"},
		{"19 20", "19:20"},
		{"1 2 3", "1 2:3"},
		{"2 5 9", "2 5:9"},
		{"1 3 4 6", "1:6 3:4"},
		{"1 3 4 6 7", "1 3:7 4:6"},
		{"2 3 5 7 11 13", "2:13 3:11 5:7"},
		{"1 2 3 4 5 6 7 8 9 10 11 12 13 14 15 16 17 18 19", "1 2:19 3:18 4:17 5:16 6:15 7:14 8:13 9:12 10:11"},
		{"1 2 3 4 5 6 7 8 9 10 11 12 13 14 15 16 17 18 19 20", "1:20 2:19 3:18 4:17 5:16 6:15 7:14 8:13 9:12 10:11"},
	} {
		g, e := Anew(numbers(x.left))
		equal(t, x.left, e, api.OK)
		list(t, x.left, g, games(x.want))
	}
}

// P9.1: errors of Anew.
func TestAnewErrors(t *testing.T) {
	for _, x := range []struct {
		name string
		left []int
		want api.Errno
	}{
		{"none", nil, api.ErrNone},
		{"one", numbers("1"), api.ErrNone},
		{"one that is wrong", numbers("0"), api.ErrNone},
		{"too many", upTo(api.MaxTeams + 1), api.ErrLarge},
		{"too many that are wrong", make([]int, api.MaxTeams+1), api.ErrLarge},
		{"0", numbers("0 1"), api.ErrArg},
		{"less than 0", numbers("-1 1"), api.ErrArg},
		{"too great", numbers("1 21"), api.ErrArg},
		{"very great", []int{1, math.MaxInt}, api.ErrArg},
		{"very small", []int{math.MinInt, 1}, api.ErrArg},
		{"the greatest", numbers("1 20"), api.OK},
		{"twice", numbers("1 1"), api.ErrOrder},
		{"falling", numbers("2 1"), api.ErrOrder},
		{"falling at the end", numbers("1 5 4"), api.ErrOrder},
		{"falling to 0", numbers("1 0"), api.ErrArg},
		{"falling, then too great", numbers("2 1 21"), api.ErrOrder},
		{"too great, then falling", numbers("1 21 20"), api.ErrArg},
	} {
		g, e := Anew(x.left)
		equal(t, x.name, e, x.want)
		equal(t, x.name, len(g) > 0, e == api.OK)
	}
}

// P9.1: Rounds.
func TestRounds(t *testing.T) {
	for many, want := range map[int]int{2: 1, 3: 2, 4: 2, 5: 3, 6: 3, 7: 3, 8: 3, 9: 4, 15: 4, 16: 4, 17: 5, 20: 5} {
		n, e := Rounds(many)
		equal(t, "Rounds", e, api.OK)
		equal(t, "Rounds", n, want)
	}
}

// P9.1: the number of seeds that First, Fixed, Rounds and Earliest take.
func TestMany(t *testing.T) {
	for _, many := range []int{math.MinInt, -1, 0, 1, 2, api.MaxTeams, api.MaxTeams + 1, math.MaxInt} {
		want := api.ErrArg
		if many == 2 || many == api.MaxTeams {
			want = api.OK
		}
		g, e := First(many)
		equal(t, "First", e, want)
		equal(t, "First", len(g) > 0, e == api.OK)
		n, e := Rounds(many)
		equal(t, "Rounds", e, want)
		equal(t, "Rounds", n > 0, e == api.OK)
		n, e = Earliest(many, 1, 2)
		equal(t, "Earliest", e, want)
		equal(t, "Earliest", n > 0, e == api.OK)
		_, e = Fixed(many, nil)
		equal(t, "Fixed", e == api.ErrArg, want == api.ErrArg)
	}
}

// P9.1: Earliest.
func TestEarliest(t *testing.T) {
	for _, x := range []struct {
		many, a, b, want int
	}{
		{2, 1, 2, 1},
		{3, 2, 3, 1},
		{3, 1, 2, 2},
		{3, 1, 3, 2},
		{6, 4, 5, 1},
		{6, 1, 5, 2},
		{6, 5, 1, 2},
		{6, 1, 4, 2},
		{6, 2, 3, 2},
		{6, 2, 6, 2},
		{6, 1, 3, 3},
		{6, 5, 6, 3},
		{8, 1, 8, 1},
		{8, 8, 4, 2},
		{20, 16, 17, 1},
		{20, 1, 16, 2},
		{20, 9, 17, 3},
		{20, 17, 20, 4},
		{20, 17, 18, 5},
	} {
		n, e := Earliest(x.many, x.a, x.b)
		equal(t, "Earliest", e, api.OK)
		equal(t, "Earliest", n, x.want)
	}
}

// P9.1: errors of Earliest.
func TestEarliestErrors(t *testing.T) {
	for _, x := range []struct {
		many, a, b int
		want       api.Errno
	}{
		{21, 0, 0, api.ErrArg},
		{6, 0, 1, api.ErrArg},
		{6, 1, 0, api.ErrArg},
		{6, 0, 0, api.ErrArg},
		{6, 7, 7, api.ErrArg},
		{6, 7, 1, api.ErrArg},
		{6, 1, 7, api.ErrArg},
		{6, -1, 1, api.ErrArg},
		{6, 1, math.MaxInt, api.ErrArg},
		{6, math.MinInt, 1, api.ErrArg},
		{6, 1, 1, api.ErrTwice},
		{6, 6, 6, api.ErrTwice},
		{6, 1, 6, api.OK},
	} {
		n, e := Earliest(x.many, x.a, x.b)
		equal(t, "Earliest", e, x.want)
		equal(t, "Earliest", n > 0, e == api.OK)
	}
}

// P9.1: Earliest as in a plain model, in which both win all games up to that against each other; the first two seeds only meet in the last round.
func TestEarliestPlainly(t *testing.T) {
	for many := 2; many <= api.MaxTeams; many++ {
		for a := 1; a <= many; a++ {
			for b := 1; b <= many; b++ {
				if a == b {
					continue
				}
				n, e := Earliest(many, a, b)
				equal(t, "Earliest", e, api.OK)
				equal(t, "Earliest", n, plainMeeting(t, many, a, b))
			}
		}
		last, e := Rounds(many)
		equal(t, "Rounds", e, api.OK)
		n, e := Earliest(many, 1, 2)
		equal(t, "Earliest", e, api.OK)
		equal(t, "the first two seeds", n, last)
	}
}

// plainMeeting plays a bracket in which two seeds win, and otherwise the better one.
func plainMeeting(t *testing.T, many, a, b int) int {
	t.Helper()
	g, e := First(many)
	for round := 1; e == api.OK; round++ {
		var winners []int
		for _, x := range g {
			both := []int{x.High, x.Low}
			switch {
			case slices.Contains(both, a) && slices.Contains(both, b):
				return round
			case x.Low == a || x.Low == b:
				winners = append(winners, x.Low)
			default:
				winners = append(winners, x.High)
			}
		}
		g, e = Fixed(many, winners)
	}
	t.Errorf("%d and %d of %d never meet: %v", a, b, many, e)
	return 0
}
