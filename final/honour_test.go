package final

import (
	"cmp"
	"math"
	"math/rand/v2"
	"slices"
	"strconv"
	"testing"

	"benchwarmer/api"
)

// P9.4: CheckHonours, which all functions with honours ask first.
func TestCheckHonours(t *testing.T) {
	for _, x := range []struct {
		name string
		h    []api.Honour
		want api.Errno
	}{
		{"none", nil, api.OK},
		{"one", honours("1 1 a"), api.OK},
		{"one team in all places", honours("1 1 a,1 2 a,2 1 a"), api.OK},
		{"places and seasons that are not there", honours("3 2 a,3 20 b,200 7 c"), api.OK},
		{"season 0", honours("0 1 a"), api.ErrArg},
		{"season below 0", honours("-1 1 a"), api.ErrArg},
		{"the last season", honours("200 1 a"), api.OK},
		{"too late a season", honours("201 1 a"), api.ErrArg},
		{"place 0", honours("1 0 a"), api.ErrArg},
		{"place below 0", honours("1 -1 a"), api.ErrArg},
		{"the last place", honours("1 20 a"), api.OK},
		{"a place too far behind", honours("1 21 a"), api.ErrArg},
		{"great numbers", []api.Honour{{Season: math.MaxInt, Place: math.MinInt}}, api.ErrArg},
		{"no key", honours("1 1 A"), api.ErrName},
		{"no team", []api.Honour{{Season: 1, Place: 1, Points: frac("1")}}, api.ErrName},
		{"as long a key as can be", []api.Honour{{Season: 1, Place: 1, Team: key(0), Points: frac("1")}}, api.OK},
		{"too long a key", []api.Honour{{Season: 1, Place: 1, Team: key(0) + "k", Points: frac("1")}}, api.ErrName},
		{"no key in a place too far behind", honours("1 21 A"), api.ErrArg},
		{"no points", []api.Honour{{Season: 1, Place: 1, Team: "a"}}, api.ErrForm},
		{"no points of no key", []api.Honour{{Season: 1, Place: 1, Team: "A"}}, api.ErrName},
		{"not in lowest terms", honours("1 1 a 2/4"), api.ErrForm},
		{"0 not in lowest terms", honours("1 1 a 0/100"), api.ErrForm},
		{"less than nothing below", honours("1 1 a 1/-1"), api.ErrForm},
		{"thirds", honours("1 1 a 1/3"), api.ErrArg},
		{"hundredths", honours("1 1 a 1/100"), api.OK},
		{"less than hundredths", honours("1 1 a 1/200"), api.ErrArg},
		{"the most", honours("1 1 a 1000000"), api.OK},
		{"the least", honours("1 1 a -1000000"), api.OK},
		{"too much", honours("1 1 a 1000001"), api.ErrArg},
		{"a little too much", honours("1 1 a 100000001/100"), api.ErrArg},
		{"a little too little", honours("1 1 a -100000001/100"), api.ErrArg},
		{"very much", []api.Honour{{Season: 1, Place: 1, Team: "a", Points: api.Fraction{Num: math.MinInt, Den: 1}}}, api.ErrArg},
		{"very small parts", []api.Honour{{Season: 1, Place: 1, Team: "a", Points: api.Fraction{Num: 1, Den: math.MaxInt}}}, api.ErrArg},
		{"twice", honours("1 1 a,1 1 a"), api.ErrOrder},
		{"two of one place", honours("1 1 a,1 1 b"), api.ErrOrder},
		{"places fall", honours("1 2 a,1 1 b"), api.ErrOrder},
		{"seasons fall", honours("2 1 a,1 2 b"), api.ErrOrder},
		{"seasons rise, places fall", honours("1 2 b,2 1 a"), api.OK},
		{"order, with wrong points", honours("1 2 a,1 1 b 1/3"), api.ErrArg},
		{"order, then wrong points", honours("1 2 a,1 1 b,1 3 c 1/3"), api.ErrOrder},
		{"wrong points, then order", honours("1 2 a 1/3,1 1 b"), api.ErrArg},
		{"as many as there can be", fullHonours(), api.OK},
		{"too many", append(fullHonours(), honour("201 1 a")), api.ErrLarge},
		{"too many that are wrong", make([]api.Honour, maxHonours+1), api.ErrLarge},
	} {
		equal(t, x.name, CheckHonours(x.h), x.want)
		_, e := Merge(x.h, x.h)
		equal(t, x.name+" of Merge", e, x.want)
		_, e = Merge(nil, x.h)
		equal(t, x.name+" of Merge", e, x.want)
		_, e = Titles(x.h)
		equal(t, x.name+" of Titles", e, x.want)
		_, e = Dynasties(x.h, 1)
		equal(t, x.name+" of Dynasties", e, x.want)
	}
}

// P9.4: Merge.
func TestMerge(t *testing.T) {
	for _, x := range []struct {
		name, a, b, want string
	}{
		{"none", "", "", ""},
		{"one list", "1 1 a,2 1 b", "", "1 1 a,2 1 b"},
		{"behind", "1 1 a", "2 1 b", "1 1 a,2 1 b"},
		{"in between", "1 1 a,2 1 b,3 2 c", "1 2 d,3 1 a", "1 1 a,1 2 d,2 1 b,3 1 a,3 2 c"},
		{"equal ones", "1 1 a 1/2,2 1 b", "1 1 a 1/2,3 1 b", "1 1 a 1/2,2 1 b,3 1 b"},
		{"all are equal", "1 1 a,1 2 b", "1 1 a,1 2 b", "1 1 a,1 2 b"},
		{"by season before place", "1 20 a,10 1 b", "2 3 c", "1 20 a,2 3 c,10 1 b"},
	} {
		h, e := Merge(honours(x.a), honours(x.b))
		equal(t, x.name, e, api.OK)
		list(t, x.name, h, honours(x.want))
		h, e = Merge(honours(x.b), honours(x.a))
		equal(t, x.name, e, api.OK)
		list(t, x.name, h, honours(x.want))
	}
	odd, even := fullHonours(), fullHonours()
	odd = slices.DeleteFunc(odd, func(x api.Honour) bool { return x.Place%2 == 0 })
	even = slices.DeleteFunc(even, func(x api.Honour) bool { return x.Place%2 == 1 })
	h, e := Merge(odd, even)
	equal(t, "as many as there can be", e, api.OK)
	list(t, "as many as there can be", h, fullHonours())
}

// P9.4: errors of Merge.
func TestMergeErrors(t *testing.T) {
	for _, x := range []struct {
		name, a, b string
		want       api.Errno
	}{
		{"the first list", "1 1 A", "0 1 a", api.ErrName},
		{"the second list", "1 1 a", "0 1 a", api.ErrArg},
		{"the second list, and a conflict", "1 1 a", "1 1 b,1 1 c", api.ErrOrder},
		{"another team", "1 1 a", "1 1 b", api.ErrConflict},
		{"other points", "1 1 a 1/2", "1 1 a 1/4", api.ErrConflict},
		{"at the end", "1 1 a,1 2 b,7 3 c", "1 1 a,7 3 d", api.ErrConflict},
		{"nothing wrong", "1 1 a", "1 1 a", api.OK},
	} {
		h, e := Merge(honours(x.a), honours(x.b))
		equal(t, x.name, e, x.want)
		equal(t, x.name, len(h) > 0, e == api.OK)
	}
}

// P9.4: Merge as in a plain model; what desks merge in any order is the same.
func TestMergePlainly(t *testing.T) {
	random := rand.New(rand.NewPCG(94, 1))
	conflicts := 0
	for range 1_000 {
		all := anyHonours(random)
		a, b := someOf(random, all), someOf(random, all)
		if len(b) > 0 && random.IntN(2) == 0 {
			b[random.IntN(len(b))].Team = "a"
		}
		var want []api.Honour
		conflict := false
		for _, x := range slices.Concat(a, b) {
			i := slices.IndexFunc(want, func(y api.Honour) bool { return y.Season == x.Season && y.Place == x.Place })
			if i < 0 {
				want = append(want, x)
			} else if want[i] != x {
				conflict = true
			}
		}
		h, e := Merge(a, b)
		if conflict {
			conflicts++
			equal(t, "Merge", e, api.ErrConflict)
			continue
		}
		slices.SortFunc(want, func(x, y api.Honour) int {
			return cmp.Compare(x.Season*100+x.Place, y.Season*100+y.Place)
		})
		equal(t, "Merge", e, api.OK)
		list(t, "Merge", h, want)
		turned, e := Merge(b, a)
		equal(t, "Merge turned round", e, api.OK)
		list(t, "Merge turned round", turned, want)
		again, e := Merge(h, a)
		equal(t, "Merge again", e, api.OK)
		list(t, "Merge again", again, want)
	}
	equal(t, "some conflicts", conflicts > 100 && conflicts < 900, true)
}

// P9.4: Titles.
func TestTitles(t *testing.T) {
	for _, x := range []struct {
		name string
		h    []api.Honour
		want string
	}{
		{"none", nil, ""},
		{"only other places", honours("1 2 a,2 2 a,2 3 b"), ""},
		{"one", champions("a"), "a:1"},
		{"the most first", champions("a b b"), "b:2 a:1"},
		{"who reached it first", champions("b a"), "b:1 a:1"},
		{"who reached it first, not who began first", champions("a b b a"), "b:2 a:2"},
		{"who reached it first, not who was first last", champions("c b a a b c"), "a:2 b:2 c:2"},
		{"three times", champions("b a b a b a"), "b:3 a:3"},
		{"seasons without a title", champions("- a - - b -"), "a:1 b:1"},
		{"other places do not count", honours("1 1 a,1 2 b,2 1 b,2 2 c,3 1 b,3 2 a"), "b:2 a:1"},
		{"ten and nine", champions("a a a a a a a a a b b b b b b b b b b"), "b:10 a:9"},
	} {
		titles, e := Titles(x.h)
		equal(t, x.name, e, api.OK)
		list(t, x.name, titles, pairs(x.want))
	}
	titles, e := Titles(fullHonours())
	equal(t, "many", e, api.OK)
	list(t, "many", titles, pairs(key(0)+":200"))
}

// P9.4: Dynasties.
func TestDynasties(t *testing.T) {
	for _, x := range []struct {
		name  string
		h     []api.Honour
		least int
		want  string
	}{
		{"none", nil, 1, ""},
		{"only other places", honours("1 2 a,2 2 a,3 2 a"), 1, ""},
		{"one season", champions("a"), 1, "a:1-1"},
		{"one season is too short", champions("a"), 2, ""},
		{"just long enough", champions("a a a"), 3, "a:1-3"},
		{"just not long enough", champions("a a a"), 4, ""},
		{"as long as possible", champions("a a a a"), 2, "a:1-4"},
		{"each", champions("a a b a"), 1, "a:1-2 b:3-3 a:4-4"},
		{"in order of seasons", champions("c c b b b a a"), 2, "c:1-2 b:3-5 a:6-7"},
		{"one team several times", champions("a a b a a a"), 2, "a:1-2 a:4-6"},
		{"a season without a title parts them", champions("a a - a a"), 2, "a:1-2 a:4-5"},
		{"a season that is not there parts them", honours("7 1 a,8 1 a,10 1 a,11 1 a,12 1 a"), 2, "a:7-8 a:10-12"},
		{"another place parts them", honours("1 1 a,2 1 b,2 2 a,3 1 a"), 1, "a:1-1 b:2-2 a:3-3"},
		{"other places in between do not", honours("1 1 a,1 2 b,2 1 a,2 2 c,2 3 a,3 1 a"), 2, "a:1-3"},
		{"of the last seasons", honours("198 1 b,199 1 a,200 1 a"), 2, "a:199-200"},
		{"all seasons", fullHonours(), 200, key(0) + ":1-200"},
	} {
		dynasties, e := Dynasties(x.h, x.least)
		equal(t, x.name, e, api.OK)
		list(t, x.name, dynasties, pairs(x.want))
	}
}

// P9.4: errors of Dynasties of its own.
func TestDynastiesErrors(t *testing.T) {
	for _, x := range []struct {
		h     string
		least int
		want  api.Errno
	}{
		{"1 1 A", 0, api.ErrName},
		{"1 1 a", 0, api.ErrArg},
		{"1 1 a", -1, api.ErrArg},
		{"1 1 a", 1, api.OK},
		{"1 1 a", api.MaxSeasons, api.OK},
		{"1 1 a", api.MaxSeasons + 1, api.ErrArg},
		{"1 1 a", math.MaxInt, api.ErrArg},
		{"1 1 a", math.MinInt, api.ErrArg},
	} {
		dynasties, e := Dynasties(honours(x.h), x.least)
		equal(t, x.h, e, x.want)
		equal(t, x.h, len(dynasties) > 0, x.least == 1)
	}
}

// P9.4: Titles and Dynasties as in a plain model that looks at one season after another.
func TestRecordsPlainly(t *testing.T) {
	random := rand.New(rand.NewPCG(94, 2))
	for range 500 {
		h := anyHonours(random)
		var first [12]string // by season; the last ones are of nobody
		for _, x := range h {
			if x.Place == 1 {
				first[x.Season] = x.Team
			}
		}
		equalTitles(t, h, first[:])
		for least := 1; least < 5; least++ {
			var want []api.Pair
			for from := range first {
				to := from
				for to+1 < len(first) && first[to+1] == first[from] {
					to++
				}
				begins := from > 0 && first[from] != "" && first[from-1] != first[from]
				if begins && to-from+1 >= least {
					want = append(want, api.Pair{Name: first[from], Value: strconv.Itoa(from) + "-" + strconv.Itoa(to)})
				}
			}
			dynasties, e := Dynasties(h, least)
			equal(t, "Dynasties", e, api.OK)
			list(t, "Dynasties", dynasties, want)
		}
	}
}

// equalTitles tests Titles of honours against who was first, by season.
func equalTitles(t *testing.T, h []api.Honour, first []string) {
	t.Helper()
	reached := make([][]string, len(first)) // by number: the teams that have so many titles in the end, as they reach it
	many := map[string]int{}
	for season, team := range first {
		many[team]++
		if team != "" && !slices.Contains(first[season+1:], team) {
			reached[many[team]] = append(reached[many[team]], team)
		}
	}
	var want []api.Pair
	for number, teams := range slices.Backward(reached) {
		for _, team := range teams {
			want = append(want, api.Pair{Name: team, Value: strconv.Itoa(number)})
		}
	}
	titles, e := Titles(h)
	equal(t, "Titles", e, api.OK)
	list(t, "Titles", titles, want)
}
