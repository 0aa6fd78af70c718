package draft

import (
	"fmt"
	"math/rand/v2"
	"slices"
	"strconv"
	"strings"
	"testing"

	"benchwarmer/api"
)

// equal tests values; name says what was asked.
func equal[T comparable](t *testing.T, name string, got, want T) {
	t.Helper()
	if got != want {
		t.Errorf("%s: got %v, want %v", name, got, want)
	}
}

// list tests lists; an empty one and nil are the same.
func list[T comparable](t *testing.T, name string, got, want []T) {
	t.Helper()
	if !slices.Equal(got, want) {
		t.Errorf("%s: got %v, want %v", name, got, want)
	}
}

// atoi reads what must be a number.
func atoi(word string) int {
	n, err := strconv.Atoi(word)
	if err != nil {
		panic(err)
	}
	return n
}

// each makes an element of the words of each line.
func each[T any](lines []string, of func(w []string) T) []T {
	var l []T
	for _, line := range lines {
		l = append(l, of(strings.Fields(line)))
	}
	return l
}

// keeps makes keeps of lines: team, player, round.
func keeps(lines ...string) []api.Keep {
	return each(lines, func(w []string) api.Keep { return api.Keep{Team: w[0], Player: w[1], Round: atoi(w[2])} })
}

// swaps makes swaps of lines: round, of, team.
func swaps(lines ...string) []api.Swap {
	return each(lines, func(w []string) api.Swap { return api.Swap{Round: atoi(w[0]), Of: w[1], Team: w[2]} })
}

// picks makes picks of lines: number, team, player, moment, and for those by the list of wishes another word.
func picks(lines ...string) []api.Pick {
	return each(lines, func(w []string) api.Pick {
		return api.Pick{No: atoi(w[0]), Team: w[1], Player: w[2], At: atoi(w[3]), Auto: len(w) == 5}
	})
}

// wishes makes lists of wishes of lines: team, players.
func wishes(lines ...string) []api.Wishes {
	return each(lines, func(w []string) api.Wishes { return api.Wishes{Team: w[0], Players: w[1:]} })
}

// sales makes sales of lines: player, team, price.
func sales(lines ...string) []api.Sale {
	return each(lines, func(w []string) api.Sale { return api.Sale{Player: w[0], Team: w[1], Price: atoi(w[2])} })
}

// pairs makes pairs of lines: name, value.
func pairs(lines ...string) []api.Pair {
	return each(lines, func(w []string) api.Pair { return api.Pair{Name: w[0], Value: w[1]} })
}

// had writes lists of wishes in the form that wishes reads.
func had(w []api.Wishes) string {
	var all []string
	for _, x := range w {
		all = append(all, strings.Join(append([]string{x.Team}, x.Players...), " "))
	}
	return strings.Join(all, ", ")
}

// key makes a key as long as it can be; keys with greater numbers are greater.
func key(n int) string {
	return fmt.Sprintf("%s%05d", strings.Repeat("k", api.MaxName-5), n)
}

func keys(many int) []string {
	var l []string
	for i := range many {
		l = append(l, key(i))
	}
	return l
}

// players returns so many players, p1 first; at most 9.
func players(many int) []string {
	return strings.Fields("p1 p2 p3 p4 p5 p6 p7 p8 p9")[:many]
}

// room is one of three teams and three rounds, with just as many players; the snake goes a b c c b a a b c.
func room(way int) api.Room {
	return api.Room{Teams: strings.Fields("a b c"), Rounds: 3, Way: way, Players: players(9), Clock: 1_000, Start: 100}
}

// wideRoom is as large as it can be.
func wideRoom() api.Room {
	return api.Room{Teams: keys(api.MaxTeams), Rounds: api.MaxPlayers / api.MaxTeams, Way: api.TurnThird, Players: keys(api.MaxPlayers), Clock: 1_000, Start: 0}
}

// hall is one of two teams with three places each, and so many players.
func hall() api.Hall {
	return api.Hall{Teams: strings.Fields("a b"), Players: players(6), Budget: 10, Places: 3}
}

// wideHall is as large as it can be.
func wideHall() api.Hall {
	return api.Hall{Teams: keys(api.MaxTeams), Players: keys(api.MaxPlayers), Budget: api.MaxBudget, Places: api.MaxPlayers / api.MaxTeams}
}

// game is all of a draft that goes on.
type game struct {
	r api.Room
	k []api.Keep
	s []api.Swap
	l []api.Pick
	w []api.Wishes
}

func (g game) String() string {
	return fmt.Sprint(g.r, g.k, g.s, g.l, g.w)
}

// anyGame makes a small game at random with which nothing is wrong. What it is made of is not asked of the package.
func anyGame(random *rand.Rand) game {
	g := game{r: api.Room{
		Teams: strings.Fields("c a d b")[:1+random.IntN(4)], Rounds: 1 + random.IntN(4), Way: 1 + random.IntN(3),
		Clock: 1_000 + random.IntN(1_000), Start: random.IntN(5_000),
	}}
	for i := range len(g.r.Teams)*g.r.Rounds + random.IntN(4) {
		g.r.Players = append(g.r.Players, fmt.Sprintf("p%02d", i))
	}
	shuffled := func() []string {
		l := slices.Clone(g.r.Players)
		random.Shuffle(len(l), func(i, j int) { l[i], l[j] = l[j], l[i] })
		return l
	}
	free, teams := shuffled(), slices.Sorted(slices.Values(g.r.Teams))
	for round := 1; round <= g.r.Rounds; round++ {
		for _, team := range teams {
			switch random.IntN(6) {
			case 0:
				g.s = append(g.s, api.Swap{Round: round, Of: team, Team: teams[random.IntN(len(teams))]})
			case 1:
				g.k, free = append(g.k, api.Keep{Team: team, Player: free[0], Round: round}), free[1:]
			}
		}
	}
	slices.SortStableFunc(g.k, func(x, y api.Keep) int { return strings.Compare(x.Team, y.Team) })
	for _, team := range g.r.Teams {
		if random.IntN(4) > 0 {
			g.w = append(g.w, api.Wishes{Team: team, Players: shuffled()[:random.IntN(len(g.r.Players)+1)]})
		}
	}
	open, at := g.open(), g.r.Start
	for _, x := range open[:random.IntN(len(open)+1)] {
		at += random.IntN(1_500)
		x.Player, x.At, x.Auto = free[0], at, random.IntN(2) == 0
		g.l, free = append(g.l, x), free[1:]
	}
	return g
}

// all returns all picks of the game before it begins, told by a table of the rounds.
func (g game) all() []api.Pick {
	var l []api.Pick
	back := []string{api.TurnStraight: "----", api.TurnSnake: "-x-x", api.TurnThird: "-xx-"}[g.r.Way]
	for round := range g.r.Rounds {
		teams := slices.Clone(g.r.Teams)
		if back[round] == 'x' {
			slices.Reverse(teams)
		}
		for _, team := range teams {
			x := api.Pick{No: len(l), Team: team}
			for _, s := range g.s {
				if s.Round == round+1 && s.Of == team {
					x.Team = s.Team
				}
			}
			for _, k := range g.k {
				if k.Round == round+1 && k.Team == team {
					x.Player, x.At = k.Player, g.r.Start
				}
			}
			l = append(l, x)
		}
	}
	return l
}

// open returns those of all that are not kept.
func (g game) open() []api.Pick {
	return slices.DeleteFunc(g.all(), func(x api.Pick) bool { return x.Player != "" })
}

// left returns who is neither kept nor in some picks.
func (g game) left(l []api.Pick) []string {
	gone := map[string]bool{}
	for _, x := range slices.Concat(g.all(), l) {
		gone[x.Player] = true
	}
	return slices.DeleteFunc(slices.Clone(g.r.Players), func(player string) bool { return gone[player] })
}

// wish returns the wish of a team after some picks.
func (g game) wish(l []api.Pick, team string) string {
	left := g.left(l)
	for _, x := range g.w {
		for _, player := range x.Players {
			if x.Team == team && slices.Contains(left, player) {
				return player
			}
		}
	}
	return left[0]
}
