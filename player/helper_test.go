package player

import (
	"slices"
	"strings"
	"testing"

	"benchwarmer/api"
)

// equal tests values; name says what was asked.
func equal[T comparable](t *testing.T, name string, got, want T) {
	t.Helper()
	if got != want {
		t.Errorf("%s: got %v, want %v", name, got, want)
	}
}

// list tests lists; an empty one and nil are the same.
func list[T comparable](t *testing.T, name string, got, want []T) {
	t.Helper()
	if !slices.Equal(got, want) {
		t.Errorf("%s: got %v, want %v", name, got, want)
	}
}

// split returns words, none for an empty string.
func split(s string) []string {
	return strings.Fields(s)
}

// person makes a player of a line of Text.
func person(line string) api.Player {
	parts := strings.SplitN(line, " ", 3)
	return api.Player{Key: parts[0], Name: parts[2], Positions: strings.Split(parts[1], ",")}
}

func people(lines ...string) []api.Player {
	var p []api.Player
	for _, line := range lines {
		p = append(p, person(line))
	}
	return p
}

// number writes a number with four digits, so that names with it rise.
func number(n int) string {
	digits := []byte("0000")
	for i := 3; i >= 0; i-- {
		digits[i] += byte(n % 10)
		n /= 10
	}
	return string(digits)
}

// crowd makes so many players, as large as they can be.
func crowd(many int) []api.Player {
	var p []api.Player
	for i := range many {
		key := strings.Repeat("k", api.MaxName-4) + number(i)
		p = append(p, api.Player{Key: key, Name: strings.Repeat("N", api.MaxTitle), Positions: wide(api.MaxPositions)})
	}
	return p
}

// wide makes so many positions, as long as they can be.
func wide(many int) []string {
	var l []string
	for i := range many {
		l = append(l, strings.Repeat("p", api.MaxName-4)+number(i))
	}
	return l
}

func samePlayers(a, b []api.Player) bool {
	return slices.EqualFunc(a, b, func(x, y api.Player) bool {
		return x.Key == y.Key && x.Name == y.Name && slices.Equal(x.Positions, y.Positions)
	})
}
