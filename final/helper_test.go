package final

import (
	"fmt"
	"math/big"
	"math/rand/v2"
	"slices"
	"strconv"
	"strings"
	"testing"

	"benchwarmer/api"
)

// equal tests values; name says what was asked.
func equal[T comparable](t *testing.T, name string, got, want T) {
	t.Helper()
	if got != want {
		t.Errorf("%s: got %v, want %v", name, got, want)
	}
}

// list tests lists; an empty one and nil are the same.
func list[T comparable](t *testing.T, name string, got, want []T) {
	t.Helper()
	if !slices.Equal(got, want) {
		t.Errorf("%s: got %v, want %v", name, got, want)
	}
}

// atoi reads what must be a number.
func atoi(word string) int {
	n, err := strconv.Atoi(word)
	if err != nil {
		panic(err)
	}
	return n
}

// numbers makes numbers of words.
func numbers(all string) []int {
	var l []int
	for _, word := range strings.Fields(all) {
		l = append(l, atoi(word))
	}
	return l
}

// games makes games of words HIGH:LOW, or HIGH for one without Low.
func games(all string) []api.Pair2 {
	var l []api.Pair2
	for _, word := range strings.Fields(all) {
		high, low, _ := strings.Cut(word, ":")
		x := api.Pair2{High: atoi(high)}
		if low != "" {
			x.Low = atoi(low)
		}
		l = append(l, x)
	}
	return l
}

// rounds makes the winners of rounds, which have commas between.
func rounds(all string) [][]string {
	var l [][]string
	for _, round := range strings.Split(all, ",") {
		l = append(l, strings.Fields(round))
	}
	return l
}

// frac makes a fraction of NUM/DEN, or of a whole number; it can be a wrong one.
func frac(word string) api.Fraction {
	num, den, over := strings.Cut(word, "/")
	if !over {
		den = "1"
	}
	return api.Fraction{Num: atoi(num), Den: atoi(den)}
}

// fracs makes fractions of words.
func fracs(all string) []api.Fraction {
	var l []api.Fraction
	for _, word := range strings.Fields(all) {
		l = append(l, frac(word))
	}
	return l
}

// rat returns a fraction as a number that has no bound.
func rat(x api.Fraction) *big.Rat {
	return big.NewRat(int64(x.Num), int64(x.Den))
}

// exact makes a fraction of a number that has no bound.
func exact(x *big.Rat) api.Fraction {
	return api.Fraction{Num: int(x.Num().Int64()), Den: int(x.Denom().Int64())}
}

// pairs makes pairs of words NAME:VALUE.
func pairs(all string) []api.Pair {
	var l []api.Pair
	for _, word := range strings.Fields(all) {
		name, value, _ := strings.Cut(word, ":")
		l = append(l, api.Pair{Name: name, Value: value})
	}
	return l
}

// honour makes an honour of SEASON PLACE TEAM, and points if they are not 0.
func honour(line string) api.Honour {
	w := strings.Fields(line)
	x := api.Honour{Season: atoi(w[0]), Place: atoi(w[1]), Team: w[2], Points: frac("0")}
	if len(w) > 3 {
		x.Points = frac(w[3])
	}
	return x
}

// honours makes honours of lines with commas between.
func honours(all string) []api.Honour {
	var h []api.Honour
	for _, line := range strings.Split(all, ",") {
		if line != "" {
			h = append(h, honour(line))
		}
	}
	return h
}

// champions makes honours of who was first from season 1 on; of a season with - nobody was.
func champions(all string) []api.Honour {
	var h []api.Honour
	for i, team := range strings.Fields(all) {
		x := api.Honour{Season: i + 1, Place: 1, Team: team, Points: frac("0")}
		if team == "-" {
			x.Place, x.Team = 2, "none"
		}
		h = append(h, x)
	}
	return h
}

// fullHonours makes as many honours as there can be, of one team whose key is as long as it can be.
func fullHonours() []api.Honour {
	var h []api.Honour
	for season := 1; season <= api.MaxSeasons; season++ {
		for place := 1; place <= api.MaxTeams; place++ {
			h = append(h, api.Honour{Season: season, Place: place, Team: key(0), Points: frac("0")})
		}
	}
	return h
}

// key makes a key as long as it can be; keys with greater numbers are greater.
func key(n int) string {
	return fmt.Sprintf("%s%06d", strings.Repeat("k", api.MaxName-6), n)
}

func keys(many int) []string {
	var l []string
	for i := range many {
		l = append(l, key(i))
	}
	return l
}

// manyWeights makes weights as great as they can be, each one less than the one before.
func manyWeights(many int) []int {
	var l []int
	for i := range many {
		l = append(l, api.MaxWeights-i)
	}
	return l
}

// anyHonours makes honours at random, of few teams and seasons; two lists of them differ at few places.
func anyHonours(random *rand.Rand) []api.Honour {
	var h []api.Honour
	for season := 1; season <= 9; season++ {
		for place := 1; place <= 2; place++ {
			if random.IntN(3) > 0 {
				h = append(h, api.Honour{
					Season: season,
					Place:  place,
					Team:   strings.Fields("a b c")[min(random.IntN(5), 2)],
					Points: frac(strings.Fields("0 1 -7/100 1/2")[random.IntN(4)]),
				})
			}
		}
	}
	return h
}

// someOf returns some of a list at random.
func someOf[T any](random *rand.Rand, l []T) []T {
	return slices.DeleteFunc(slices.Clone(l), func(T) bool { return random.IntN(2) == 0 })
}
