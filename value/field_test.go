package value

import (
	"cmp"
	"math"
	"math/rand/v2"
	"slices"
	"strings"
	"testing"

	"benchwarmer/api"
)

// P8.2: Fielded.
func TestFielded(t *testing.T) {
	for _, x := range []struct {
		name, assets, places string
		sum                  int
		who                  string
	}{
		{"nobody", "", "gk:1", 0, ""},
		{"no places", four, "", 0, ""},
		{"none of the position", four, "df:3", 0, ""},
		{"a place for nobody", four, "gk:0", 0, ""},
		{"one", four, "gk:1", 10, "a"},
		{"two", four, "gk:2", 18, "a b"},
		{"as many as there are", four, "gk:4", 26, "a b c d"},
		{"more than there are", four, "gk:12", 26, "a b c d"},
		{"by value, not by name", "a gk 3,b gk 5,c gk 8", "gk:2", 13, "b c"},
		{"equal ones", "a gk 3,b gk 5,c gk 5,d gk 5,e gk 7", "gk:3", 17, "b c e"},
		{"only above 0", "a gk 3,b gk 0,c gk -1", "gk:3", 3, "a"},
		{"all at 0 or below", "a gk 0,b gk -1000000", "gk:2", 0, ""},
		{"1 is above 0", "a gk 1", "gk:1", 1, "a"},
		{"positions", "a st 4,b gk 9,c df 6,d gk 2,e st 7,f df 5,g fb 100", "df:1 gk:2 st:1", 24, "b c d e"},
		{"sorted", "a df 1,b gk 9,c df 2,d gk 8", "df:2 gk:2", 20, "a b c d"},
		{"the greatest", "a gk 1000000,b gk 1000000,c gk -1000000", "gk:12", 2_000_000, "a b"},
	} {
		sum, who, e := Fielded(assets(x.assets), places(x.places))
		equal(t, x.name, e, api.OK)
		equal(t, x.name, sum, x.sum)
		list(t, x.name, who, strings.Fields(x.who))
	}
}

// P8.2: Brings.
func TestBrings(t *testing.T) {
	for _, x := range []struct {
		name, assets, places, further string
		want                          int
	}{
		{"better than the one who is fielded", four, "gk:1", "z gk 12", 2},
		{"as good", four, "gk:1", "z gk 10", 0},
		{"worse", four, "gk:1", "z gk 9", 0},
		{"better than the last one who is fielded", four, "gk:3", "z gk 9", 4},
		{"there is room", four, "gk:5", "z gk 7", 7},
		{"there is room, for nothing", four, "gk:5", "z gk 0", 0},
		{"there is room, for less than nothing", four, "gk:5", "z gk -9", 0},
		{"in place of one who is not fielded", "a gk 3,b gk -1", "gk:2", "z gk 2", 2},
		{"the first one", "", "gk:1", "z gk 7", 7},
		{"of a position that is not fielded", four, "gk:1", "z df 7", 0},
		{"a place for nobody", four, "df:0 gk:1", "z df 7", 0},
		{"no places", four, "", "z gk 7", 0},
		{"of a position of its own", four, "df:1 gk:1", "z df 7", 7},
		{"in front", "b gk 3", "gk:1", "a gk 7", 4},
		{"in the middle", "a gk 3,c gk 2", "gk:1", "b gk 7", 4},
		{"the greatest", "a gk -1000000", "gk:1", "z gk 1000000", 1_000_000},
	} {
		n, e := Brings(assets(x.assets), places(x.places), asset(x.further))
		equal(t, x.name, e, api.OK)
		equal(t, x.name, n, x.want)
	}
}

// P8.2: Drop.
func TestDrop(t *testing.T) {
	for _, x := range []struct {
		name, assets, places, want string
	}{
		{"who is not fielded, the least of them", four, "gk:1", "d"},
		{"all are fielded", four, "gk:4", "d"},
		{"one", "a gk 10", "gk:1", "a"},
		{"one who is not fielded", "a gk 10", "", "a"},
		{"the least value, wherever it stands", "a gk 3,b gk 1,c gk 2", "gk:1", "b"},
		{"of equal ones the last", "a gk 3,b gk 1,c gk 1,d gk 2", "gk:1", "c"},
		{"of equal ones who are fielded the last", "a gk 3,b gk 3,c gk 3", "gk:3", "c"},
		{"of two who are equal one is enough", "a df 5,b gk 9,c gk 9", "df:1 gk:1", "c"},
		{"who is hard to do without", "a df 4,b gk 9,c gk 8", "df:1 gk:1", "c"},
		{"who is fielded, but brings little", "a df 4,b gk 9,c gk 8", "df:1 gk:2", "a"},
		{"a great value that is nowhere fielded", "a df 4,b gk 9,c st 100", "df:1 gk:1", "c"},
		{"less than nothing", "a df 4,b gk -9,c st 100", "df:1 gk:1", "b"},
		{"0 is not fielded", "a df 4,b gk 0,c gk -1", "df:1 gk:2", "c"},
		{"no places", four, "", "d"},
	} {
		s, there, e := Drop(assets(x.assets), places(x.places))
		equal(t, x.name, e, api.OK)
		equal(t, x.name, there, true)
		equal(t, x.name, s, x.want)
	}
	s, there, e := Drop(nil, places("gk:1"))
	equal(t, "nobody", e, api.OK)
	equal(t, "nobody", there, false)
	equal(t, "nobody", s, "")
}

// P8.2: errors of Fielded and Drop.
func TestFieldErrors(t *testing.T) {
	for _, x := range []struct {
		name, assets, places string
		want                 api.Errno
	}{
		{"nothing wrong", four, "gk:1", api.OK},
		{"assets", "b gk 1,a gk 1", "GK:1", api.ErrOrder},
		{"places", four, "GK:1", api.ErrName},
	} {
		sum, who, e := Fielded(assets(x.assets), places(x.places))
		equal(t, x.name, e, x.want)
		equal(t, x.name, sum > 0, e == api.OK)
		equal(t, x.name, len(who) > 0, e == api.OK)
		s, there, e := Drop(assets(x.assets), places(x.places))
		equal(t, x.name, e, x.want)
		equal(t, x.name, s != "", e == api.OK)
		equal(t, x.name, there, e == api.OK)
	}
	many := manyAssets(api.MaxAssets + 1)
	_, _, e := Fielded(many, nil)
	equal(t, "too many", e, api.ErrLarge)
	_, _, e = Drop(many, nil)
	equal(t, "too many", e, api.ErrLarge)
	s, _, e := Drop(many[:api.MaxAssets], places("gk:12"))
	equal(t, "many", e, api.OK)
	equal(t, "many", s, key(0))
}

// P8.2: errors of Brings.
func TestBringsErrors(t *testing.T) {
	full := manyAssets(api.MaxAssets)
	for _, x := range []struct {
		name    string
		l       []api.Asset
		places  string
		further api.Asset
		want    api.Errno
	}{
		{"assets", assets("a gk 1,a gk 1"), "GK:1", asset("Z gk 1"), api.ErrOrder},
		{"places", assets(four), "GK:1", asset("Z gk 1"), api.ErrName},
		{"player", assets(four), "gk:1", asset("Z gk 1000001"), api.ErrName},
		{"position", assets(four), "gk:1", asset("a GK 1000001"), api.ErrName},
		{"value", assets(four), "gk:1", asset("a gk 1000001"), api.ErrArg},
		{"a great value", assets(four), "gk:1", api.Asset{Player: "z", Position: "gk", Value: math.MinInt}, api.ErrArg},
		{"the first one again", assets(four), "gk:1", asset("a gk 1"), api.ErrTwice},
		{"the last one, for another position", assets(four), "gk:1", asset("d df 1"), api.ErrTwice},
		{"one of as many as there can be", full, "gk:1", asset(key(150) + " gk 1"), api.ErrTwice},
		{"full", full, "gk:1", asset("z gk 1"), api.ErrFull},
		{"full, and wrong", full, "gk:1", asset("z gk 1000001"), api.ErrArg},
		{"just not full", full[1:], "gk:1", asset("z gk 300"), api.OK},
		{"too many", manyAssets(api.MaxAssets + 1), "gk:1", asset("z gk 1"), api.ErrLarge},
	} {
		n, e := Brings(x.l, places(x.places), x.further)
		equal(t, x.name, e, x.want)
		equal(t, x.name, n > 0, e == api.OK)
	}
}

// plainFielded tries all parts of a team.
func plainFielded(l []api.Asset, p []api.Place) (int, []string) {
	best := 0
	var team []string
	for set := range 1 << len(l) {
		many := map[string]int{}
		for _, x := range p {
			many[x.Position] = x.Many
		}
		sum, right := 0, true
		var who []string
		for i, x := range l {
			if set>>i&1 == 1 {
				many[x.Position]--
				right = right && x.Value > 0 && many[x.Position] >= 0
				sum += x.Value
				who = append(who, x.Player)
			}
		}
		if right && (sum > best || sum == best && slices.Compare(who, team) < 0) {
			best, team = sum, who
		}
	}
	return best, team
}

// P8.2: Fielded, Brings and Drop as in a plain model.
func TestFieldPlainly(t *testing.T) {
	random := rand.New(rand.NewPCG(82, 1))
	for range 1_000 {
		l, p := anyAssets(random, "a", 7), anyPlaces(random)
		want, team := plainFielded(l, p)
		sum, who, e := Fielded(l, p)
		equal(t, "Fielded", e, api.OK)
		equal(t, "Fielded", sum, want)
		list(t, "Fielded", who, team)
		drop, there, e := Drop(l, p)
		equal(t, "Drop", e, api.OK)
		equal(t, "Drop", there, len(l) > 0)
		if !there {
			continue
		}
		i := random.IntN(len(l))
		without := func(i int) []api.Asset { return slices.Delete(slices.Clone(l), i, i+1) }
		before, _ := plainFielded(without(i), p)
		n, e := Brings(without(i), p, l[i])
		equal(t, "Brings", e, api.OK)
		equal(t, "Brings", n, want-before)
		least := 0
		for i := range l {
			one, _ := plainFielded(without(i), p)
			other, _ := plainFielded(without(least), p)
			if cmp.Or(cmp.Compare(one, other), cmp.Compare(l[least].Value, l[i].Value), strings.Compare(l[i].Player, l[least].Player)) > 0 {
				least = i
			}
		}
		equal(t, "Drop", drop, l[least].Player)
	}
}
