package play

import (
	"fmt"
	"math"
	"math/rand/v2"
	"slices"
	"strings"
	"testing"

	"benchwarmer/api"
)

// P2.2: CheckTrust.
func TestCheckTrust(t *testing.T) {
	var many []string
	for i := range api.MaxSources + 1 {
		many = append(many, key(i))
	}
	for _, x := range []struct {
		name  string
		trust []string
		want  api.Errno
	}{
		{"none", nil, api.OK},
		{"ordinary", []string{"fb", "fa"}, api.OK},
		{"most", many[:api.MaxSources], api.OK},
		{"too many", many, api.ErrLarge},
		{"too many, and wrong", make([]string, api.MaxSources+1), api.ErrLarge},
		{"no key", []string{"fa", "Fa"}, api.ErrName},
		{"empty", []string{""}, api.ErrName},
		{"no key twice", []string{"", ""}, api.ErrName},
		{"twice", []string{"fa", "fa"}, api.ErrTwice},
		{"twice, not side by side", []string{"fa", "fb", "fa"}, api.ErrTwice},
		{"first one first", []string{"fa", "fa", "Fa"}, api.ErrTwice},
	} {
		equal(t, x.name, CheckTrust(x.trust), x.want)
	}
}

// pairs of matches and sources, written.
func named(l []api.Pair) string {
	var all []string
	for _, x := range l {
		all = append(all, x.Name+" "+x.Value)
	}
	return strings.Join(all, ", ")
}

// P2.2: Told, and the source that counts.
func TestTold(t *testing.T) {
	l := plays(
		"fa 1 50 1 mb ann goal 1", "fa 2 60 2 m_ ann goal 1", "fa 3 60 3 mc ann goal 1",
		"fb 1 70 1 mb ann goal 1", "fb 2 40 2 m_ ann goal 1", "fb 3 80 2 m_ ann goal 0 2", "fb 5 90 3 mc ann goal 0 4",
		"fc 1 10 4 m0 ann goal 0")
	for _, x := range []struct {
		trust string
		at    int
		want  string
	}{
		{"fa fb", 9, ""},
		{"fa fb", 40, "m_ fb"},
		{"fa fb", 59, "m_ fb, mb fa"},
		{"fa fb", 60, "m_ fa, mb fa, mc fa"},
		{"fb fa", 69, "m_ fb, mb fa, mc fa"},
		{"fb fa", 70, "m_ fb, mb fb, mc fa"},
		{"fb fa", 89, "m_ fb, mb fb, mc fa"},
		{"fb fa", 90, "m_ fb, mb fb, mc fb"},
		{"fb", 69, "m_ fb"},
		{"fb", 80, "m_ fb, mb fb"},
		{"fb", api.End - 1, "m_ fb, mb fb, mc fb"},
		{"fz fc", 9, ""},
		{"fz fc", 10, "m0 fc"},
		{"fz fc fb fa", 99, "m0 fc, m_ fb, mb fb, mc fb"},
		{"", 99, ""},
	} {
		told, e := Told(l, strings.Fields(x.trust), x.at)
		equal(t, x.trust, e, api.OK)
		equal(t, fmt.Sprint(x.trust, " at ", x.at), named(told), x.want)
	}
	for _, at := range []int{-1, api.End, math.MinInt, math.MaxInt} {
		_, e := Told(l, nil, at)
		equal(t, "no moment", e, api.ErrArg)
	}
}

// lined tests the lines of a week.
func lined(t *testing.T, name string, l []api.Play, trust string, week, at int, want string) {
	t.Helper()
	lines, e := Lines(l, strings.Fields(trust), week, at)
	equal(t, name, e, api.OK)
	equal(t, name, shown(lines), want)
}

// P2.2: Lines.
func TestLines(t *testing.T) {
	l := plays(
		"fa 1 10 1 ma ann goal 1", "fa 2 20 1 ma ann goal 1", "fa 3 30 1 ma ann goal 0 2", "fa 4 40 1 mb ann goal 5", "fa 5 40 1 mb ann foul -2",
		"fa 6 50 2 mc ann goal 7", "fa 7 50 2 mc a-n goal 7",
		"fb 1 60 1 ma bea pass 5", "fb 2 70 1 ma bea pass -5", "fb 3 80 1 ma ann pass 1", "fb 4 90 1 ma ann pass 0 3")
	lined(t, "before all", l, "fa fb", 1, 9, "")
	lined(t, "one", l, "fa fb", 1, 10, "ann 1 goal:1")
	lined(t, "two", l, "fa fb", 1, 29, "ann 1 goal:2")
	lined(t, "one is taken back", l, "fa fb", 1, 30, "ann 1 goal:1")
	lined(t, "two matches of a week", l, "fa fb", 1, 99, "ann 1 foul:-2 goal:6")
	lined(t, "another week, by name", l, "fa fb", 2, 99, "a-n 2 goal:7, ann 2 goal:7")
	lined(t, "a week without", l, "fa fb", 60, 99, "")
	lined(t, "not yet told", l, "fb fa", 1, 59, "ann 1 foul:-2 goal:6")
	lined(t, "another source for one match", l, "fb fa", 1, 60, "ann 1 foul:-2 goal:5, bea 1 pass:5")
	lined(t, "a player whose sums are 0", l, "fb", 1, 79, "bea 1")
	lined(t, "and another one", l, "fb", 1, 80, "ann 1 pass:1, bea 1")
	lined(t, "a player all of whose plays are taken back", l, "fb", 1, 90, "bea 1")
	lined(t, "nobody is trusted", l, "", 1, 99, "")
	lined(t, "who has told nothing", l, "fc", 1, 99, "")
	lined(t, "no plays", nil, "fa", 1, 99, "")
}

// P2.2: plays that are taken back at other moments, and sources that count though nothing of theirs is left.
func TestLinesTakenBack(t *testing.T) {
	l := plays("fa 1 50 1 ma ann goal 1", "fa 2 20 1 ma ann goal 0 1", "fa 3 70 1 ma bea goal 0", "fa 4 80 1 ma bea goal 0 2",
		"fb 1 10 1 ma cat goal 1")
	lined(t, "only the second one is known", l, "fb", 1, 10, "cat 1 goal:1")
	lined(t, "it is taken back before it is told", l, "fa fb", 1, 20, "")
	lined(t, "told, but taken back", l, "fa fb", 1, 69, "")
	lined(t, "a play with a count of 0", l, "fa fb", 1, 70, "bea 1")
	lined(t, "what takes back is not taken back", l, "fa fb", 1, 80, "bea 1")
	lined(t, "example", plays("a 1 1 1 m ann goal 1", "a 2 1 1 m ann goal 1", "a 3 2 1 m ann goal 0 2"), "a", 1, 2, "ann 1 goal:1")
	lined(t, "example of trust", plays("a 1 1 1 m ann goal 1", "b 1 1 1 m bea pass 1"), "b a", 1, 2, "bea 1 pass:1")
}

// bulk makes plays of one player that have so great a sum, and so many more statistics with 1 each.
func bulk(sum, more int) []api.Play {
	var l []api.Play
	add := func(stat string, count int) {
		l = append(l, api.Play{Source: "fa", No: len(l) + 1, Week: 1, Match: "ma", Player: "ann", Stat: stat, Count: count})
	}
	for range 2 {
		add("sum", sum/2)
	}
	add("sum", sum%2)
	for i := range more {
		add(key(i), 1)
	}
	return l
}

// P2.2: the errors of Lines.
func TestLinesErrors(t *testing.T) {
	most := bulk(api.MaxCount, api.MaxStats-1)
	zero := append(bulk(0, api.MaxStats), plays("fb 1 0 1 ma bea pass 1")...)
	way := plays("fa 1 0 1 ma ann goal 100000", "fa 2 0 1 ma ann goal 100000", "fa 3 0 1 ma ann goal -100000", "fa 4 0 1 ma ann goal 1", "fa 5 0 1 ma ann goal -1")
	for _, x := range []struct {
		name     string
		l        []api.Play
		trust    string
		week, at int
		want     api.Errno
	}{
		{"most", most, "fa", 1, 0, api.OK},
		{"one more", bulk(api.MaxCount+1, 0), "fa", 1, 0, api.ErrFull},
		{"least", bulk(-api.MaxCount, 0), "fa", 1, 0, api.OK},
		{"one less", bulk(-api.MaxCount-1, 0), "fa", 1, 0, api.ErrFull},
		{"too many statistics", bulk(2, api.MaxStats), "fa", 1, 0, api.ErrFull},
		{"as many, with one that is 0", zero, "fa", 1, 0, api.OK},
		{"too great in another week", bulk(api.MaxCount+1, 0), "fa", 2, 0, api.OK},
		{"too great, not trusted", bulk(api.MaxCount+1, 0), "fb", 1, 0, api.OK},
		{"too great on the way", way, "fa", 1, 0, api.OK},
		{"too great, and a week", bulk(api.MaxCount+1, 0), "fa", 0, 0, api.ErrArg},
		{"week 61", nil, "", 61, 0, api.ErrArg},
		{"least week", nil, "", math.MinInt, 0, api.ErrArg},
		{"before the first moment", nil, "", 1, -1, api.ErrArg},
		{"after the last moment", nil, "", 1, api.End, api.ErrArg},
		{"the last moment", nil, "", 60, api.End - 1, api.OK},
	} {
		lines, e := Lines(x.l, strings.Fields(x.trust), x.week, x.at)
		equal(t, x.name, e, x.want)
		if e != api.OK {
			equal(t, x.name, len(lines), 0)
		}
	}
	for n, want := range map[int]api.Errno{3: api.ErrFull, 2: api.OK, 1: api.OK} {
		over := plays("fa 1 1 1 ma ann goal 100000", "fa 2 2 1 ma ann goal 1", "fa 3 3 1 ma bea goal 1")
		_, e := Lines(over, []string{"fa"}, 1, map[int]int{3: 3, 2: 1, 1: 0}[n])
		equal(t, "too great from a moment on", e, want)
	}
}

// whoTells is the source that counts of a match, found play by play.
func whoTells(l []api.Play, trust []string, match string, at int) string {
	for _, source := range trust {
		for _, x := range l {
			if x.Match == match && x.Source == source && x.At <= at {
				return source
			}
		}
	}
	return ""
}

// isBack says whether a play is taken back, by asking all others.
func isBack(l []api.Play, p api.Play, at int) bool {
	for _, x := range l {
		if x.Source == p.Source && x.Undo == p.No && x.At <= at && x.Match == p.Match && x.Player == p.Player && x.Stat == p.Stat && p.Undo == 0 {
			return true
		}
	}
	return false
}

// plainLines makes lines as the document tells it, without haste: for each player, and each statistic, through all plays.
func plainLines(l []api.Play, trust []string, week, at int) string {
	var lines []api.Line
	for _, player := range []string{"ann", "bea", "cat"} {
		x := api.Line{Player: player, Week: week}
		there := false
		for _, stat := range []string{"foul", "goal", "pass"} {
			sum := 0
			for _, p := range l {
				if p.Player == player && p.Week == week && p.At <= at && p.Undo == 0 && whoTells(l, trust, p.Match, at) == p.Source && !isBack(l, p, at) {
					there = true
					if p.Stat == stat {
						sum += p.Count
					}
				}
			}
			if sum != 0 {
				x.Stats = append(x.Stats, api.Stat{Name: stat, Count: sum})
			}
		}
		if there {
			lines = append(lines, x)
		}
	}
	return shown(lines)
}

// feed makes plays of three sources at random, of which many take back others.
func feed(r *rand.Rand) []api.Play {
	pick := func(words ...string) string { return words[r.IntN(len(words))] }
	var l []api.Play
	for _, source := range []string{"fa", "fb", "fc"} {
		for no := 1; no <= 8; no++ {
			match := r.IntN(3)
			x := api.Play{Source: source, No: no, At: r.IntN(10), Week: 1 + match/2, Match: []string{"ma", "mb", "mc"}[match], Player: pick("ann", "bea", "cat"), Stat: pick("foul", "goal", "pass"), Count: r.IntN(4) - 1}
			if no > 1 && r.IntN(2) == 0 {
				x.Count, x.Undo = 0, 1+r.IntN(no-1)
				other := l[len(l)-no+x.Undo]
				if r.IntN(4) > 0 {
					x.Week, x.Match, x.Player, x.Stat = other.Week, other.Match, other.Player, other.Stat
				}
			}
			l = append(l, x)
		}
	}
	return slices.DeleteFunc(l, func(api.Play) bool { return r.IntN(5) == 0 })
}

// P2.2: Lines and Undone at all moments, held against the document's words.
func TestLinesPlainly(t *testing.T) {
	r := rand.New(rand.NewPCG(1, 2))
	seen := 0
	for range 500 {
		l := feed(r)
		trust := []string{"fa", "fb", "fc", "fd"}
		r.Shuffle(len(trust), func(i, j int) { trust[i], trust[j] = trust[j], trust[i] })
		trust = trust[:1+r.IntN(4)]
		for at := range 10 {
			for week := 1; week <= 2; week++ {
				want := plainLines(l, trust, week, at)
				lined(t, "at random", l, strings.Join(trust, " "), week, at, want)
				seen += len(want)
			}
		}
		var back []int
		for i, x := range l {
			if isBack(l, x, api.End) {
				back = append(back, i)
			}
		}
		numbers, e := Undone(l)
		equal(t, "Undone", e, api.OK)
		list(t, "Undone", numbers, back)
		if t.Failed() {
			t.Fatal(l)
		}
	}
	equal(t, "lines are seen", seen > 1000, true)
}

// What follows: feeds that are merged in any order give the same lines.
func TestMergedInAnyOrder(t *testing.T) {
	r := rand.New(rand.NewPCG(3, 4))
	for range 100 {
		all := feed(r)
		parts := make([][]api.Play, 3)
		for _, x := range all {
			// Each play comes at least once, some twice.
			i, j := r.IntN(3), r.IntN(3)
			parts[i] = append(parts[i], x)
			if i != j {
				parts[j] = append(parts[j], x)
			}
		}
		for _, order := range [][]int{{0, 1, 2}, {0, 2, 1}, {1, 0, 2}, {1, 2, 0}, {2, 0, 1}, {2, 1, 0}, {2, 2, 1, 0, 1}} {
			var merged []api.Play
			for _, i := range order {
				var e api.Errno
				merged, e = Merge(merged, parts[i])
				equal(t, "Merge", e, api.OK)
			}
			list(t, "merged", merged, all)
			lined(t, "merged", merged, "fb fa fc", 1, 9, plainLines(all, []string{"fb", "fa", "fc"}, 1, 9))
		}
	}
}

// gaps writes where sources tell something else.
func gaps(l []api.Apart) string {
	var all []string
	for _, x := range l {
		all = append(all, fmt.Sprintf("%s %s %s %s:%d %s:%d", x.Match, x.Player, x.Stat, x.First, x.One, x.Second, x.Two))
	}
	return strings.Join(all, ", ")
}

// P2.2: Disagree.
func TestDisagree(t *testing.T) {
	l := plays(
		"fa 1 10 1 ma bea pass 2", "fa 2 20 1 ma ann goal 1", "fa 3 20 1 ma ann foul 1", "fa 4 20 2 mb ann goal 9",
		"fb 1 20 1 ma ann goal 2", "fb 2 30 1 ma ann goal -1", "fb 3 30 1 ma bea pass 3", "fb 4 40 1 ma bea pass 0 3", "fb 5 40 1 ma bea pass 2",
		"fc 1 50 1 ma ann goal 0 0", "fc 2 60 1 ma cat goal 0 1",
		"fd 2 70 1 ma ann goal 0 1")
	l[9].Count = 4
	for _, x := range []struct {
		match string
		at    int
		want  string
	}{
		{"ma", 9, ""},
		{"ma", 19, ""},
		{"ma", 20, "ma ann foul fa:1 fb:0, ma ann goal fa:1 fb:2, ma bea pass fa:2 fb:0"},
		{"ma", 30, "ma ann foul fa:1 fb:0, ma bea pass fa:2 fb:3"},
		{"ma", 40, "ma ann foul fa:1 fb:0"},
		{"ma", 60, "ma ann foul fa:1 fb:0, ma ann foul fa:1 fc:0, ma ann goal fa:1 fc:4, ma bea pass fa:2 fc:0, ma ann goal fb:1 fc:4, ma bea pass fb:2 fc:0"},
		// fd has told of it, though it counts nothing.
		{"ma", 70, "ma ann foul fa:1 fb:0, ma ann foul fa:1 fc:0, ma ann goal fa:1 fc:4, ma bea pass fa:2 fc:0, ma ann foul fa:1 fd:0, ma ann goal fa:1 fd:0, ma bea pass fa:2 fd:0, ma ann goal fb:1 fc:4, ma bea pass fb:2 fc:0, ma ann goal fb:1 fd:0, ma bea pass fb:2 fd:0, ma ann goal fc:4 fd:0"},
		{"mb", 99, ""},
		{"mc", 99, ""},
	} {
		apart, e := Disagree(l, x.match, x.at)
		equal(t, x.match, e, api.OK)
		equal(t, fmt.Sprint(x.match, " at ", x.at), gaps(apart), x.want)
	}
}

// P2.2: the errors of Disagree, and sums that Lines would not have.
func TestDisagreeErrors(t *testing.T) {
	for _, x := range []struct {
		name, match string
		at          int
		want        api.Errno
	}{
		{"no key", "Ma", 0, api.ErrName}, {"empty", "", 0, api.ErrName}, {"no key, no moment", "Ma", -1, api.ErrName},
		{"before the first moment", "ma", -1, api.ErrArg}, {"after the last moment", "ma", api.End, api.ErrArg}, {"the last moment", "ma", api.End - 1, api.OK},
	} {
		_, e := Disagree(nil, x.match, x.at)
		equal(t, x.name, e, x.want)
	}
	apart, e := Disagree(append(bulk(2*api.MaxCount, 2*api.MaxStats), plays("fb 1 0 1 ma ann sum 0")...), "ma", 0)
	equal(t, "great sums", e, api.OK)
	equal(t, "great sums", len(apart), 1+2*api.MaxStats)
	equal(t, "the last one", apart[2*api.MaxStats], api.Apart{Match: "ma", Player: "ann", Stat: "sum", First: "fa", Second: "fb", One: 2 * api.MaxCount})
}

// P2.2: Disagree with as many sources, plays and differences as there can be.
func TestDisagreeMost(t *testing.T) {
	var l []api.Play
	each := api.MaxPlays / api.MaxSources
	for i := range api.MaxPlays {
		l = append(l, api.Play{Source: key(i / each), No: 1 + i%each, Week: 1, Match: "ma", Player: key(i), Stat: "goal", Count: 1})
	}
	apart, e := Disagree(l, "ma", 0)
	equal(t, "most", e, api.OK)
	equal(t, "most", len(apart), api.MaxPlays*(api.MaxSources-1))
	equal(t, "the last one", apart[len(apart)-1], api.Apart{Match: "ma", Player: key(api.MaxPlays - 1), Stat: "goal", First: key(18), Second: key(19), Two: 1})
}
