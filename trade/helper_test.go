package trade

import (
	"fmt"
	"math/rand/v2"
	"slices"
	"strconv"
	"strings"
	"testing"

	"benchwarmer/api"
)

// equal tests values; name says what was asked.
func equal[T comparable](t *testing.T, name string, got, want T) {
	t.Helper()
	if got != want {
		t.Errorf("%s: got %v, want %v", name, got, want)
	}
}

// list tests lists; an empty one and nil are the same.
func list[T comparable](t *testing.T, name string, got, want []T) {
	t.Helper()
	if !slices.Equal(got, want) {
		t.Errorf("%s: got %v, want %v", name, got, want)
	}
}

// atoi reads what must be a number.
func atoi(word string) int {
	n, err := strconv.Atoi(word)
	if err != nil {
		panic(err)
	}
	return n
}

// each makes an element of the words of each line.
func each[T any](lines []string, of func(w []string) T) []T {
	var l []T
	for _, line := range lines {
		l = append(l, of(strings.Fields(line)))
	}
	return l
}

// market is of four teams with up to three players, of which two can stop a trade within 10 milliseconds.
func market() api.Market {
	return api.Market{Teams: []string{"a", "b", "c", "d"}, Vetoes: 2, Wait: 10, Deadline: 500, Most: 3}
}

// sized is the market with other bounds of players.
func sized(least, most int) api.Market {
	m := market()
	m.Least, m.Most = least, most
	return m
}

// widest is the greatest market.
func widest() api.Market {
	return api.Market{Teams: keys(api.MaxTeams), Vetoes: api.MaxTeams, Wait: maxWait, Deadline: api.End, Most: api.MaxHave}
}

// owners makes owners of a line of words player:team.
func owners(line string) []api.Owner {
	return each(strings.Fields(line), func(w []string) api.Owner {
		player, team, _ := strings.Cut(w[0], ":")
		return api.Owner{Player: player, Team: team}
	})
}

// held writes owners in the form of owners.
func held(o []api.Owner) string {
	var all []string
	for _, x := range o {
		all = append(all, x.Player+":"+x.Team)
	}
	return strings.Join(all, " ")
}

// giveOf makes a give of a word player:from:to.
func giveOf(word string) api.Give {
	parts := strings.Split(word, ":")
	return api.Give{Player: parts[0], From: parts[1], To: parts[2]}
}

// offerOf makes an offer of a line: id, team, from when on, until when, gives.
func offerOf(line string) api.Offer {
	return offers(line)[0]
}

func offers(lines ...string) []api.Offer {
	return each(lines, func(w []string) api.Offer {
		x := api.Offer{Id: w[0], By: w[1], Time: api.Window{From: atoi(w[2]), To: atoi(w[3])}}
		for _, word := range w[4:] {
			x.Gives = append(x.Gives, giveOf(word))
		}
		return x
	})
}

// shown writes offers in the form of offers, each ended by a comma.
func shown(l []api.Offer) string {
	all := ""
	for _, x := range l {
		all += fmt.Sprint(x.Id, " ", x.By, " ", x.Time.From, " ", x.Time.To)
		for _, g := range x.Gives {
			all += " " + g.Player + ":" + g.From + ":" + g.To
		}
		all += ","
	}
	return all
}

// kindOf is the kind of a word; 0 for others.
func kindOf(word string) int {
	return map[string]int{"yes": api.AnswerYes, "no": api.AnswerNo, "veto": api.AnswerVeto, "back": api.AnswerBack}[word]
}

// answers makes answers of lines: moment, offer, team, kind.
func answers(lines ...string) []api.Answer {
	return each(lines, func(w []string) api.Answer {
		return api.Answer{At: atoi(w[0]), Offer: w[1], Team: w[2], Kind: kindOf(w[3])}
	})
}

// stood writes stages: offer, how, since when; commas between.
func stood(l []api.Stage) string {
	names := []string{"", "open", "waits", "done", "refused", "back", "stopped", "late", "broken"}
	var all []string
	for _, x := range l {
		all = append(all, fmt.Sprint(x.Offer, " ", names[x.How], " ", x.Since))
	}
	return strings.Join(all, ", ")
}

// wants makes wants of lines: player, and for whom.
func wants(lines ...string) []api.Wants {
	return each(lines, func(w []string) api.Wants { return api.Wants{Player: w[0], For: w[1:]} })
}

// key makes a key as long as it can be; keys with greater numbers are greater.
func key(n int) string {
	return fmt.Sprintf("%s%05d", strings.Repeat("k", api.MaxName-5), n)
}

func keys(many int) []string {
	var l []string
	for i := range many {
		l = append(l, key(i))
	}
	return l
}

// manyOwners makes owners of so many players in the widest market, one team after the other.
func manyOwners(many int) []api.Owner {
	var o []api.Owner
	for i := range many {
		o = append(o, api.Owner{Player: key(i), Team: key(i % api.MaxTeams)})
	}
	return o
}

// manyOffers makes so many offers in the widest market, with so many gives each, which can be done with manyOwners.
func manyOffers(many, wide int) []api.Offer {
	var l []api.Offer
	for i := range many {
		x := api.Offer{Id: key(i), Time: api.Window{From: i, To: api.End}}
		for j := range wide {
			from := j % api.MaxTeams
			x.Gives = append(x.Gives, api.Give{Player: key(j), From: key(from), To: key((from + 1) % api.MaxTeams)})
		}
		x.By = key(0)
		l = append(l, x)
	}
	return l
}

// manyAnswers makes so many answers in the widest market, in turn to all offers of manyOffers, of all teams.
func manyAnswers(many, kind int) []api.Answer {
	var a []api.Answer
	for i := range many {
		a = append(a, api.Answer{Offer: key(i % api.MaxOffers), Team: key(i / api.MaxOffers % api.MaxTeams), At: api.MaxOffers + i, Kind: kind})
	}
	return a
}

// some returns one of some words at random.
func some(random *rand.Rand, words string) string {
	all := strings.Fields(words)
	return all[random.IntN(len(all))]
}

// anyMarket makes a market and owners at random with which nothing is wrong.
func anyMarket(random *rand.Rand) (api.Market, []api.Owner) {
	m := market()
	m.Vetoes, m.Wait, m.Deadline = 1+random.IntN(2), random.IntN(10), 20+random.IntN(30)
	var o []api.Owner
	many := map[string]int{"a": 0, "b": 0, "c": 0, "d": 0}
	for _, player := range strings.Fields("p q r s t u v w") {
		team := some(random, "a b c d")
		many[team]++
		o = append(o, api.Owner{Player: player, Team: team})
	}
	m.Least, m.Most = 8, 0
	for _, n := range many {
		m.Least, m.Most = min(m.Least, n), max(m.Most, n)
	}
	m.Least, m.Most = max(0, m.Least-random.IntN(3)), m.Most+random.IntN(2)
	return m, o
}

// anyOffers makes offers at random with which nothing is wrong: most of them can be done at first.
func anyOffers(random *rand.Rand, o []api.Owner) []api.Offer {
	var l []api.Offer
	for _, id := range strings.Fields("i j k l m n")[:random.IntN(7)] {
		from := random.IntN(30)
		x := api.Offer{Id: id, Time: api.Window{From: from, To: from + 1 + random.IntN(25)}}
		for _, y := range o {
			g := api.Give{Player: y.Player, From: y.Team, To: some(random, "a b c d")}
			if random.IntN(9) == 0 {
				g.From = some(random, "a b c d")
			}
			if random.IntN(4) == 0 && g.From != g.To {
				x.Gives = append(x.Gives, g)
				x.By = some(random, g.From+" "+g.To)
			}
		}
		if len(x.Gives) > 0 {
			l = append(l, x)
		}
	}
	return l
}

// anyAnswers makes answers at random with which nothing is wrong: most of them say yes.
func anyAnswers(random *rand.Rand) []api.Answer {
	var a []api.Answer
	for at := range 60 {
		for _, offer := range strings.Fields("i j k l m n z") {
			for _, team := range strings.Fields("a b c d") {
				if random.IntN(6) == 0 {
					a = append(a, api.Answer{Offer: offer, Team: team, At: at, Kind: kindOf(some(random, "yes yes yes yes yes veto veto veto no back"))})
				}
			}
		}
	}
	return a
}

// anyWants makes wants of some of the players at random with which nothing is wrong.
func anyWants(random *rand.Rand, o []api.Owner) []api.Wants {
	var w []api.Wants
	for _, x := range o {
		y := api.Wants{Player: x.Player}
		for _, i := range random.Perm(len(o)) {
			if o[i].Team != x.Team && random.IntN(3) == 0 {
				y.For = append(y.For, o[i].Player)
			}
		}
		if random.IntN(5) > 0 {
			w = append(w, y)
		}
	}
	return w
}
