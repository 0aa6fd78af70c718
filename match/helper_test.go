package match

import (
	"fmt"
	"math/rand/v2"
	"slices"
	"strconv"
	"strings"
	"testing"

	"benchwarmer/api"
)

// equal tests values; name says what was asked.
func equal[T comparable](t *testing.T, name string, got, want T) {
	t.Helper()
	if got != want {
		t.Errorf("%s: got %v, want %v", name, got, want)
	}
}

// list tests lists; an empty one and nil are the same.
func list[T comparable](t *testing.T, name string, got, want []T) {
	t.Helper()
	if !slices.Equal(got, want) {
		t.Errorf("%s: got %v, want %v", name, got, want)
	}
}

// atoi reads what must be a number.
func atoi(word string) int {
	n, err := strconv.Atoi(word)
	if err != nil {
		panic(err)
	}
	return n
}

// frac makes a fraction of NUM/DEN, or of a whole number; it can be a wrong one.
func frac(word string) api.Fraction {
	num, den, over := strings.Cut(word, "/")
	if !over {
		den = "1"
	}
	return api.Fraction{Num: atoi(num), Den: atoi(den)}
}

// four are the teams of most tests.
func four() []string { return []string{"a", "b", "c", "d"} }

// gameOf makes a game of a line: week, home, away, and if it is played the points of both.
func gameOf(line string) api.Game {
	w := strings.Fields(line)
	x := api.Game{Week: atoi(w[0]), Home: w[1], Away: w[2]}
	if len(w) > 3 {
		x.Played, x.For, x.Other = true, frac(w[3]), frac(w[4])
	}
	return x
}

// games makes games of lines with commas between.
func games(all string) []api.Game {
	var g []api.Game
	for _, line := range strings.Split(all, ",") {
		if line != "" {
			g = append(g, gameOf(line))
		}
	}
	return g
}

// shown writes games that are not played as WEEK HOME AWAY, with commas between.
func shown(g []api.Game) string {
	var all []string
	for _, x := range g {
		line := fmt.Sprint(x.Week, " ", x.Home, " ", x.Away)
		if (x != api.Game{Week: x.Week, Home: x.Home, Away: x.Away}) {
			line += fmt.Sprint(" ", x.Played, x.For, x.Other)
		}
		all = append(all, line)
	}
	return strings.Join(all, ",")
}

// pairs makes pairs of words NAME:VALUE.
func pairs(all string) []api.Pair {
	var l []api.Pair
	for _, word := range strings.Fields(all) {
		name, value, _ := strings.Cut(word, ":")
		l = append(l, api.Pair{Name: name, Value: value})
	}
	return l
}

// key makes a key as long as it can be; keys with greater numbers are greater.
func key(n int) string {
	return fmt.Sprintf("%s%06d", strings.Repeat("k", api.MaxName-6), n)
}

func keys(many int) []string {
	var l []string
	for i := range many {
		l = append(l, key(i))
	}
	return l
}

// fullSeason makes games of as many teams as there can be, so many in all, played if they are of a week up to one.
func fullSeason(many, played int) []api.Game {
	var g []api.Game
	for week := 1; week <= api.MaxWeeks; week++ {
		for i := 0; i < api.MaxTeams; i += 2 {
			x := api.Game{Week: week, Home: key(i), Away: key(i + 1)}
			if week <= played {
				x.Played, x.For, x.Other = true, api.Fraction{Num: -maxPoints*100 + 1, Den: 100}, api.Fraction{Num: maxPoints, Den: 1}
			}
			g = append(g, x)
		}
	}
	return g[:many]
}

// anyTeams makes teams at random.
func anyTeams(random *rand.Rand) []string {
	return strings.Fields("a b c d e f g")[:2+random.IntN(6)]
}

// anyGames makes games at random with which nothing is wrong, up to so many of them open. Many of them are equal in points.
func anyGames(random *rand.Rand, teams []string, open int) []api.Game {
	var g []api.Game
	for week := 1; week <= 6; week++ {
		order := random.Perm(len(teams))
		for i := 1; i < len(order); i += 2 {
			x := api.Game{Week: week, Home: teams[order[i]], Away: teams[order[i-1]], Played: true}
			x.For, x.Other = anyPoints(random), anyPoints(random)
			switch random.IntN(6) {
			case 0:
				continue
			case 1:
				if open > 0 {
					x.Played, x.For, x.Other = false, api.Fraction{}, api.Fraction{}
					open--
				}
			}
			g = append(g, x)
		}
	}
	slices.SortFunc(g, func(x, y api.Game) int {
		if x.Week != y.Week {
			return x.Week - y.Week
		}
		return strings.Compare(x.Home, y.Home)
	})
	return g
}

// anyPoints makes points of which many are equal.
func anyPoints(random *rand.Rand) api.Fraction {
	return frac(strings.Fields("-1 0 0 1/4 1/2 1 1 3/2 7/100")[random.IntN(9)])
}

// anyBreaks makes some tie-breaks in any order.
func anyBreaks(random *rand.Rand) []int {
	var l []int
	for _, n := range random.Perm(5)[:random.IntN(6)] {
		l = append(l, 1+n)
	}
	return l
}
