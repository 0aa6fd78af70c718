package match

import (
	"fmt"
	"math"
	"math/rand/v2"
	"slices"
	"strings"
	"testing"

	"benchwarmer/api"
)

// P7.4: Through and Out.
func TestThrough(t *testing.T) {
	for _, x := range []struct {
		name, games  string
		places       int
		through, out string
	}{
		{"no games", "", 1, "", ""},
		{"no games, room for all but one", "", 3, "", ""},
		{"no games, room for all", "", 4, "a b c d", ""},
		{"the tests'", "1 a b 9 1,1 c d 3 2,2 a c,2 b d", 2, "", ""},
		{"the tests', one place", "1 a b 9 1,1 c d 3 2,2 a c,2 b d", 1, "", "b d"},
		{"the tests', three places", "1 a b 9 1,1 c d 3 2,2 a c,2 b d", 3, "a c", ""},
		{"all is played", "1 a b 1 0,1 c d 1 1", 1, "a", "b c d"},
		{"who is equal is not in", "1 a b 1 0,1 c d 1 1", 2, "a", "b"},
		{"and not beyond", "1 a b 1 0,1 c d 1 1", 3, "a c d", "b"},
		{"room for all", "1 a b 1 0,1 c d 1 1", 4, "a b c d", ""},
		{"a draw is enough", "1 a b 1 0,2 a b 0 0,3 a b", 1, "", "c d"},
		{"a win more", "1 a b 1 0,2 a b 0 0,3 a b,4 c d", 2, "a", ""},
		{"one can be reached", "1 a b 1 0,2 c b", 1, "", "d"},
		{"one can be passed", "1 a b 1 1,2 c b", 1, "", "a d"},
	} {
		l, e := Through(four(), games(x.games), x.places)
		equal(t, x.name, e, api.OK)
		equal(t, x.name+": Through", strings.Join(l, " "), x.through)
		l, e = Out(four(), games(x.games), x.places)
		equal(t, x.name, e, api.OK)
		equal(t, x.name+": Out", strings.Join(l, " "), x.out)
	}
}

// P7.4: Needs.
func TestNeeds(t *testing.T) {
	for _, x := range []struct {
		name, games, team string
		places            int
		want              int
		can               bool
	}{
		{"the tests'", "1 a b 9 1,1 c d 3 2,2 a c,2 b d", "a", 2, 3, true},
		{"first", "1 a b 9 1,1 c d 3 2,2 a c,2 b d", "a", 1, 4, true},
		{"one of three", "1 a b 9 1,1 c d 3 2,2 a c,2 b d", "a", 3, 2, true},
		{"one who lost", "1 a b 9 1,1 c d 3 2,2 a c,2 b d", "b", 2, 0, false},
		{"one who lost, of three", "1 a b 9 1,1 c d 3 2,2 a c,2 b d", "b", 3, 2, true},
		{"room for all", "1 a b 9 1,1 c d 3 2,2 a c,2 b d", "b", 4, 0, true},
		{"no games", "", "a", 1, 0, false},
		{"no games, room for all", "", "a", 4, 0, true},
		{"all is played", "1 a b 1 0", "a", 1, 2, true},
		{"all is played, and lost", "1 a b 1 0", "b", 1, 0, false},
		{"equal", "1 a b 1 1", "a", 1, 0, false},
		{"equal, of two", "1 a b 1 1", "a", 2, 1, true},
		{"it has no game itself", "1 a b 1 0,2 b c", "a", 1, 0, false},
		{"it has no game itself, of two", "1 a b 1 0,2 b c", "a", 2, 2, true},
		{"two games", "1 a b,2 a b", "a", 1, 3, true},
		{"three games of two, and two of others", "1 a b,1 c d,2 a b,2 c d,3 a b", "a", 1, 5, true},
		{"a draw is not enough", "1 a b 1 0,2 a c,3 c d 1 0", "a", 1, 4, true},
		{"a draw is enough", "1 a b 1 0,2 a c", "a", 1, 3, true},
		{"8 games", "1 a b,1 c d,2 a b,2 c d,3 a b,3 c d,4 a b,4 c d", "a", 1, 0, false},
		{"8 games, of two", "1 a b,1 c d,2 a b,2 c d,3 a b,3 c d,4 a b,4 c d", "a", 2, 5, true},
	} {
		n, can, e := Needs(four(), games(x.games), x.team, x.places)
		equal(t, x.name, e, api.OK)
		equal(t, x.name, n, x.want)
		equal(t, x.name, can, x.can)
	}
}

// P7.4: Worst.
func TestWorst(t *testing.T) {
	for _, x := range []struct {
		name, games, team string
		best, worst       int
	}{
		{"the tests'", "1 a b 9 1,1 c d 3 2,2 a c,2 b d", "a", 1, 2},
		{"who lost", "1 a b 9 1,1 c d 3 2,2 a c,2 b d", "b", 2, 4},
		{"no games", "", "a", 1, 1},
		{"all is played", "1 a b 1 0,1 c d 1 1", "a", 1, 1},
		{"equal", "1 a b 1 0,1 c d 1 1", "d", 2, 2},
		{"the last one", "1 a b 1 0,1 c d 1 1", "b", 4, 4},
		{"one game", "1 a b", "b", 1, 2},
		{"a game of others", "1 a b", "c", 2, 3},
		{"all can pass", "1 a b,1 c d,2 a c,2 b d", "a", 1, 4},
	} {
		best, worst, e := Worst(four(), games(x.games), x.team)
		equal(t, x.name, e, api.OK)
		equal(t, x.name, best, x.best)
		equal(t, x.name, worst, x.worst)
	}
}

// P7.4: errors.
func TestThroughErrors(t *testing.T) {
	var open string
	for week := 1; week <= 4; week++ {
		open += fmt.Sprintf("%d a b,%d c d,", week, week)
	}
	for _, x := range []struct {
		name, games, team string
		places            int
		of                string
		want              api.Errno
	}{
		{"nothing", "", "a", 1, "Through Out Needs Worst", api.OK},
		{"games", "1 a a," + open, "e", 0, "Through Out Needs Worst", api.ErrTwice},
		{"places 0", "5 a b," + open, "e", 0, "Through Out Needs", api.ErrArg},
		{"places below 0", "5 a b," + open, "e", -1, "Through Out Needs", api.ErrArg},
		{"the least places", "5 a b," + open, "e", math.MinInt, "Through Out Needs", api.ErrArg},
		{"too many places", "5 a b," + open, "e", 5, "Through Out Needs", api.ErrArg},
		{"the most places", "5 a b," + open, "e", math.MaxInt, "Through Out Needs", api.ErrArg},
		{"as many places as teams", "", "a", 4, "Through Out Needs", api.OK},
		{"no such team", "5 a b," + open, "e", 1, "Needs Worst", api.ErrNone},
		{"an empty team", "", "", 1, "Needs Worst", api.ErrNone},
		{"a great one", "", strings.Repeat("a", 200_000), 1, "Needs Worst", api.ErrNone},
		{"8 open games", open, "a", 1, "Through Out Needs Worst", api.OK},
		{"8 open games and some that are played", open + "5 a b 1 0,6 a b 1 0", "a", 1, "Through Out Needs Worst", api.OK},
		{"9 open games", open + "5 a b", "a", 1, "Through Out Needs Worst", api.ErrLarge},
		{"9 open games in all", "5 a b 1 0,6 a b," + open, "a", 1, "Through Out Needs Worst", api.ErrLarge},
	} {
		g := games(inOrder(strings.TrimSuffix(x.games, ",")))
		for _, name := range strings.Fields(x.of) {
			n, m, can, e := 0, 0, false, api.OK
			var l []string
			switch name {
			case "Through":
				l, e = Through(four(), g, x.places)
			case "Out":
				l, e = Out(four(), g, x.places)
			case "Needs":
				n, can, e = Needs(four(), g, x.team, x.places)
			case "Worst":
				n, m, e = Worst(four(), g, x.team)
			}
			equal(t, name+" "+x.name, e, x.want)
			if e != api.OK {
				list(t, name+" "+x.name, l, nil)
				equal(t, name+" "+x.name, n+m, 0)
				equal(t, name+" "+x.name, can, false)
			}
		}
	}
}

// ended calls take with the games for each way in which they end.
func ended(g []api.Game, take func(g []api.Game)) {
	open := slices.IndexFunc(g, func(x api.Game) bool { return !x.Played })
	if open < 0 {
		take(g)
		return
	}
	for _, points := range []string{"1 0", "0 0", "0 1", "-1 1/2"} {
		then := slices.Clone(g)
		x := g[open]
		then[open] = gameOf(fmt.Sprint(x.Week, " ", x.Home, " ", x.Away, " ", points))
		ended(then, take)
	}
}

// plainWays is what teams can have at the end.
type plainWays struct {
	through, out map[string]bool
	missed       map[string]int // the greatest total with which a team was not in
	totals       map[string][]int
	best, worst  map[string]int
}

// count takes one way into account.
func (w *plainWays) count(teams []string, g []api.Game, places int) {
	for _, team := range teams {
		own := plainStanding(g, team).Points
		asMany, more := 0, 0
		for _, other := range teams {
			if other != team && plainStanding(g, other).Points >= own {
				asMany++
			}
			if plainStanding(g, other).Points > own {
				more++
			}
		}
		if asMany > places-1 {
			w.through[team] = false
			w.missed[team] = max(w.missed[team], own)
		}
		if more < places {
			w.out[team] = false
		}
		w.totals[team] = append(w.totals[team], own)
		w.best[team], w.worst[team] = min(w.best[team], 1+more), max(w.worst[team], 1+more)
	}
}

func plainlyEnded(teams []string, g []api.Game, places int) *plainWays {
	w := &plainWays{map[string]bool{}, map[string]bool{}, map[string]int{}, map[string][]int{}, map[string]int{}, map[string]int{}}
	for _, team := range teams {
		w.through[team], w.out[team], w.missed[team], w.best[team] = true, true, -1, len(teams)
	}
	ended(g, func(g []api.Game) { w.count(teams, g, places) })
	return w
}

// P7.4: all four as they are told.
func TestThroughPlainly(t *testing.T) {
	random := rand.New(rand.NewPCG(74, 1))
	in, out, sure, never := 0, 0, 0, 0
	for range 300 {
		teams := anyTeams(random)
		g := anyGames(random, teams, random.IntN(5))
		places := 1 + random.IntN(len(teams))
		w := plainlyEnded(teams, g, places)
		name := fmt.Sprint(g, places)
		var through, beyond []string
		for _, team := range teams {
			if w.through[team] {
				through = append(through, team)
			}
			if w.out[team] {
				beyond = append(beyond, team)
			}
			best, worst, e := Worst(teams, g, team)
			equal(t, name, e, api.OK)
			equal(t, name, best, w.best[team])
			equal(t, name, worst, w.worst[team])
			least := math.MaxInt
			for _, total := range w.totals[team] {
				if total > w.missed[team] {
					least = min(least, total)
				}
			}
			n, can, e := Needs(teams, g, team, places)
			equal(t, name, e, api.OK)
			equal(t, name, can, least < math.MaxInt)
			if !can {
				least = 0
				never++
			} else {
				sure++
			}
			equal(t, name, n, least)
		}
		l, e := Through(teams, g, places)
		equal(t, name, e, api.OK)
		list(t, name, l, through)
		in += len(l)
		l, e = Out(teams, g, places)
		equal(t, name, e, api.OK)
		list(t, name, l, beyond)
		out += len(l)
	}
	if in < 100 || out < 100 || sure < 100 || never < 100 {
		t.Errorf("only %d are in, %d beyond, %d can be sure, %d never", in, out, sure, never)
	}
}

// P7.4, what follows: who is through is in the first places of each Table; and who is out is in none.
func TestThroughTables(t *testing.T) {
	random := rand.New(rand.NewPCG(74, 2))
	for range 300 {
		teams := anyTeams(random)
		g := anyGames(random, teams, random.IntN(4))
		places := 1 + random.IntN(len(teams))
		in, e := Through(teams, g, places)
		equal(t, "Through", e, api.OK)
		out, e := Out(teams, g, places)
		equal(t, "Out", e, api.OK)
		ended(g, func(g []api.Game) {
			table, e := Table(teams, g, anyBreaks(random))
			equal(t, "Table", e, api.OK)
			for i, x := range table {
				if slices.Contains(in, x.Team) {
					equal(t, fmt.Sprint(g, x.Team), i < places && x.Rank <= places, true)
				}
				if slices.Contains(out, x.Team) {
					equal(t, fmt.Sprint(g, x.Team), i >= places && x.Rank > places, true)
				}
			}
		})
	}
}

// P7.4: as many teams and games as there can be.
func TestThroughMost(t *testing.T) {
	teams := keys(api.MaxTeams)
	g := fullSeason(600, api.MaxWeeks)
	for i := 592; i < 600; i++ {
		g[i].Played, g[i].For, g[i].Other = false, api.Fraction{}, api.Fraction{}
	}
	var odd, even []string
	for i := range api.MaxTeams {
		if i%2 == 0 {
			even = append(even, key(i))
		} else {
			odd = append(odd, key(i))
		}
	}
	l, e := Through(teams, g, 10)
	equal(t, "Through", e, api.OK)
	list(t, "Through", l, odd)
	l, e = Out(teams, g, 10)
	equal(t, "Out", e, api.OK)
	list(t, "Out", l, even)
	best, worst, e := Worst(teams, g, key(5))
	equal(t, "Worst", e, api.OK)
	equal(t, "Worst", best, 1)
	equal(t, "Worst", worst, 10)
	n, can, e := Needs(teams, g, key(5), 10)
	equal(t, "Needs", e, api.OK)
	equal(t, "Needs", n, 118)
	equal(t, "Needs", can, true)
}
