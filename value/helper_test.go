package value

import (
	"fmt"
	"math/big"
	"math/rand/v2"
	"slices"
	"strconv"
	"strings"
	"testing"

	"benchwarmer/api"
)

// equal tests values; name says what was asked.
func equal[T comparable](t *testing.T, name string, got, want T) {
	t.Helper()
	if got != want {
		t.Errorf("%s: got %v, want %v", name, got, want)
	}
}

// list tests lists; an empty one and nil are the same.
func list[T comparable](t *testing.T, name string, got, want []T) {
	t.Helper()
	if !slices.Equal(got, want) {
		t.Errorf("%s: got %v, want %v", name, got, want)
	}
}

// atoi reads what must be a number.
func atoi(word string) int {
	n, err := strconv.Atoi(word)
	if err != nil {
		panic(err)
	}
	return n
}

// colon reads words NAME:NUMBER.
func colon(all string, take func(name string, n int)) {
	for _, word := range strings.Fields(all) {
		name, number, _ := strings.Cut(word, ":")
		take(name, atoi(number))
	}
}

// asset makes an asset of PLAYER POSITION VALUE.
func asset(line string) api.Asset {
	w := strings.Fields(line)
	return api.Asset{Player: w[0], Position: w[1], Value: atoi(w[2])}
}

// assets makes assets of lines with commas between.
func assets(all string) []api.Asset {
	var l []api.Asset
	for _, line := range strings.Split(all, ",") {
		if line != "" {
			l = append(l, asset(line))
		}
	}
	return l
}

// places makes places of words POSITION:MANY.
func places(all string) []api.Place {
	var p []api.Place
	colon(all, func(name string, n int) { p = append(p, api.Place{Position: name, Many: n}) })
	return p
}

// pairs makes pairs of words NAME:NUMBER.
func pairs(all string) []api.Pair {
	var l []api.Pair
	colon(all, func(name string, n int) { l = append(l, api.Pair{Name: name, Value: strconv.Itoa(n)}) })
	return l
}

// outcomes makes outcomes of words POINTS:WEIGHT.
func outcomes(all string) []api.Outcome {
	var l []api.Outcome
	colon(all, func(name string, n int) { l = append(l, api.Outcome{Points: atoi(name), Weight: n}) })
	return l
}

// hope makes a hope of a player and its outcomes.
func hope(line string) api.Hope {
	player, rest, _ := strings.Cut(line, " ")
	return api.Hope{Player: player, Outcomes: outcomes(rest)}
}

// hopes makes hopes of lines with commas between.
func hopes(all string) []api.Hope {
	var h []api.Hope
	for _, line := range strings.Split(all, ",") {
		if line != "" {
			h = append(h, hope(line))
		}
	}
	return h
}

// frac makes a fraction of NUM/DEN.
func frac(word string) api.Fraction {
	num, den, _ := strings.Cut(word, "/")
	return api.Fraction{Num: atoi(num), Den: atoi(den)}
}

// exact makes a fraction of a number that has no bound.
func exact(x *big.Rat) api.Fraction {
	return api.Fraction{Num: int(x.Num().Int64()), Den: int(x.Denom().Int64())}
}

// key makes a key as long as it can be; keys with greater numbers are greater.
func key(n int) string {
	return fmt.Sprintf("%s%06d", strings.Repeat("k", api.MaxName-6), n)
}

// manyAssets makes assets of one position with rising values.
func manyAssets(many int) []api.Asset {
	var l []api.Asset
	for i := range many {
		l = append(l, api.Asset{Player: key(i), Position: "gk", Value: i})
	}
	return l
}

// manyHopes makes hopes, each with the same outcomes.
func manyHopes(many int, all string) []api.Hope {
	var h []api.Hope
	for i := range many {
		h = append(h, api.Hope{Player: key(i), Outcomes: outcomes(all)})
	}
	return h
}

// spreadOut makes hopes whose sums, 0 and so on, are as many as there can be: 8 times 5 times 5 times 5 times 5 times 4.
func spreadOut() []api.Hope {
	var h []api.Hope
	all := 1
	for i, many := range []int{8, 5, 5, 5, 5, 4} {
		x := api.Hope{Player: key(i)}
		for n := range many {
			x.Outcomes = append(x.Outcomes, api.Outcome{Points: n * all, Weight: 1})
		}
		h = append(h, x)
		all *= many
	}
	return h
}

// anyAssets makes assets at random, many of them of equal value; their players begin with a word.
func anyAssets(random *rand.Rand, word string, most int) []api.Asset {
	var l []api.Asset
	for i := range random.IntN(most + 1) {
		l = append(l, api.Asset{
			Player:   word + string(rune('a'+i)),
			Position: strings.Fields("df gk mf st")[random.IntN(4)],
			Value:    random.IntN(9) - 2,
		})
	}
	return l
}

// anyPlaces makes places at random.
func anyPlaces(random *rand.Rand) []api.Place {
	var p []api.Place
	for _, position := range strings.Fields("df fb gk mf st") {
		if random.IntN(4) > 0 {
			p = append(p, api.Place{Position: position, Many: random.IntN(4)})
		}
	}
	return p
}

// anyHopes makes hopes at random.
func anyHopes(random *rand.Rand, word string, most int) []api.Hope {
	var h []api.Hope
	for i := range random.IntN(most + 1) {
		h = append(h, anyHope(random, word+string(rune('a'+i))))
	}
	return h
}

func anyHope(random *rand.Rand, player string) api.Hope {
	x := api.Hope{Player: player}
	points := random.IntN(6) - 3
	for range 1 + random.IntN(4) {
		x.Outcomes = append(x.Outcomes, api.Outcome{Points: points, Weight: 1 + random.IntN(4)})
		points += 1 + random.IntN(3)
	}
	return x
}

// each gives all sums of hopes to take, one by one, with their product of weights, and how many ways there are in all.
func each(h []api.Hope, take func(points int, ways *big.Int)) *big.Int {
	all := big.NewInt(1)
	for _, x := range h {
		sum := int64(0)
		for _, o := range x.Outcomes {
			sum += int64(o.Weight)
		}
		all.Mul(all, big.NewInt(sum))
	}
	var walk func(i, points int, ways *big.Int)
	walk = func(i, points int, ways *big.Int) {
		if i == len(h) {
			take(points, ways)
			return
		}
		for _, o := range h[i].Outcomes {
			walk(i+1, points+o.Points, new(big.Int).Mul(ways, big.NewInt(int64(o.Weight))))
		}
	}
	walk(0, 0, big.NewInt(1))
	return all
}

// likely returns how likely the sum of hopes is as something says.
func likely(h []api.Hope, is func(points int) bool) *big.Rat {
	some := new(big.Int)
	all := each(h, func(points int, ways *big.Int) {
		if is(points) {
			some.Add(some, ways)
		}
	})
	return new(big.Rat).SetFrac(some, all)
}
