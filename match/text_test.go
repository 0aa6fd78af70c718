package match

import (
	"fmt"
	"math/rand/v2"
	"slices"
	"strings"
	"testing"

	"benchwarmer/api"
)

// P7.5: Text, and Read of it.
func TestText(t *testing.T) {
	for _, x := range []struct {
		games, want string
	}{
		{"", ""},
		{"1 a b", "1 a b\n"},
		{"1 a b 9 1", "1 a b 9/1 1/1\n"},
		{"1 b a 0 0", "1 b a 0/1 0/1\n"},
		{"7 ann bob -7/100 1/2,60 bob ann", "7 ann bob -7/100 1/2\n60 bob ann\n"},
		{"1 a-_0 z 1000000 -99999999/100", "1 a-_0 z 1000000/1 -99999999/100\n"},
		{"1 a d,1 b c,2 b d,2 c a", "1 a d\n1 b c\n2 b d\n2 c a\n"},
	} {
		s, e := Text(games(x.games))
		equal(t, x.games, e, api.OK)
		equal(t, x.games, s, x.want)
		g, number, e := Read(x.want)
		equal(t, x.games, e, api.OK)
		equal(t, x.games, number, 0)
		list(t, x.games, g, games(x.games))
	}
}

// P7.5: errors of Text are those of CheckGames for the teams that there are.
func TestTextErrors(t *testing.T) {
	notPlayed := games("1 a b")
	notPlayed[0].For = frac("0/1")
	for _, x := range []struct {
		name string
		g    []api.Game
		want api.Errno
	}{
		{"no key", games("0 a B"), api.ErrName},
		{"no name", []api.Game{{Week: 0, Home: "a"}}, api.ErrName},
		{"a long one", []api.Game{{Week: 1, Home: "a", Away: strings.Repeat("b", api.MaxName+1)}}, api.ErrName},
		{"one team", games("0 a a"), api.ErrNone},
		{"one team that is no key", games("0 A A"), api.ErrNone},
		{"a game of one team", games("1 a b,1 c c"), api.ErrTwice},
		{"no key in a later game", games("0 a b,0 c D"), api.ErrName},
		{"week", games("0 a b"), api.ErrArg},
		{"not played, with points", notPlayed, api.ErrForm},
		{"points", games("1 a b 2/4 1"), api.ErrForm},
		{"points", games("1 a b 1/3 1"), api.ErrArg},
		{"order", games("1 b a,1 a b"), api.ErrOrder},
		{"twice in a week", games("1 a b,1 b c"), api.ErrConflict},
		{"as many teams as there can be", fullSeason(10, 1), api.OK},
		{"too many teams", append(fullSeason(10, 1), gameOf("2 a b")), api.ErrLarge},
		{"too many games", make([]api.Game, api.MaxGames+1), api.ErrNone},
		{"too many games of two teams", slices.Repeat(games("1 a b"), api.MaxGames+1), api.ErrLarge},
		{"many games of two teams", slices.Repeat(games("1 a b"), api.MaxGames), api.ErrOrder},
	} {
		s, e := Text(x.g)
		equal(t, x.name, e, x.want)
		equal(t, x.name, s != "", e == api.OK)
	}
}

// written writes games, right or wrong, in the form of Text.
func written(g []api.Game) string {
	var b strings.Builder
	for _, x := range g {
		fmt.Fprintf(&b, "%d %s %s", x.Week, x.Home, x.Away)
		if x.Played {
			fmt.Fprintf(&b, " %d/%d %d/%d", x.For.Num, x.For.Den, x.Other.Num, x.Other.Den)
		}
		b.WriteByte('\n')
	}
	return b.String()
}

// P7.5: texts that Read accepts, and how it errs with others.
func TestRead(t *testing.T) {
	const open, good = "1 a b\n", "2 a b 1/2 -3/1\n"
	long := strings.Repeat("x", api.MaxText)
	for _, x := range []struct {
		text   string
		number int
		want   api.Errno
	}{
		{"", 0, api.OK},
		{open, 0, api.OK},
		{good, 0, api.OK},
		{open + good, 0, api.OK},
		{good + "3 a b\n3 c d 0/1 0/1\n", 0, api.OK},
		{"1 a b", 0, api.ErrSyntax},
		{open + "2 a b 1/2 1/2", 1, api.ErrSyntax},
		{"\n", 0, api.ErrSyntax},
		{open + "\n" + good, 1, api.ErrSyntax},
		{"1\n", 0, api.ErrSyntax},
		{"1 a\n", 0, api.ErrSyntax},
		{"1 a b 1/1\n", 0, api.ErrSyntax},
		{"1 a b 1/1 1/1 1/1\n", 0, api.ErrSyntax},
		{"1 a b 1/1 1/1 1/1 1/1\n", 0, api.ErrSyntax},
		{"a 1 b\n", 0, api.ErrSyntax},
		{"x a b\n", 0, api.ErrSyntax},
		{"1/1 a b\n", 0, api.ErrSyntax},
		{"1 a b 1 1\n", 0, api.ErrSyntax},
		{"1 a b 1/1 1\n", 0, api.ErrSyntax},
		{"1 a b 1 1/1\n", 0, api.ErrSyntax},
		{"1 a b x 1/1\n", 0, api.ErrSyntax},
		{"1 a b 1/1 x\n", 0, api.ErrSyntax},
		{"1 a b 1/ 1/1\n", 0, api.ErrSyntax},
		{"1 a b 1/1 /1\n", 0, api.ErrSyntax},
		{"1 a b 1/1/1 1/1\n", 0, api.ErrSyntax},
		{"1 a b 1.5/1 1/1\n", 0, api.ErrSyntax},
		{" 1 a b\n", 0, api.ErrSyntax},
		{"1 a b \n", 0, api.ErrSyntax},
		{"1  a b\n", 0, api.ErrSyntax},
		{"1 a  b\n", 0, api.ErrSyntax},
		{"1  b\n", 0, api.ErrSyntax},
		{"1 a \n", 0, api.ErrSyntax},
		{"1 a b  1/1\n", 0, api.ErrSyntax},
		{"1 a b 1/1 \n", 0, api.ErrSyntax},
		{"1\ta b\n", 0, api.ErrSyntax},
		{"1 a b 1/1 1/1\r\n", 0, api.ErrSyntax},
		{"1 a b\r\n", 0, api.ErrName},
		{open + "2 a b\nx\nx\n", 2, api.ErrSyntax},
		{"1 A b\nx\n", 1, api.ErrSyntax},
		{"0 a b\nx\n", 1, api.ErrSyntax},
		{"1 a a\n", 0, api.ErrNone},
		{"1 A b\n", 0, api.ErrName},
		{"1 a b\xff\n", 0, api.ErrName},
		{"0 a b\n", 0, api.ErrArg},
		{"-1 a b\n", 0, api.ErrArg},
		{"61 a b\n", 0, api.ErrArg},
		{"1 a b\n2 c c\n", 0, api.ErrTwice},
		{"1 a b 2/4 1/1\n", 0, api.ErrForm},
		{"1 a b 1/1 1/0\n", 0, api.ErrForm},
		{"1 a b 0/0 0/0\n", 0, api.ErrForm},
		{"1 a b 1/-1 1/1\n", 0, api.ErrForm},
		{"1 a b 1000001/1 1/1\n", 0, api.ErrArg},
		{"1 a b 1/1 1/3\n", 0, api.ErrArg},
		{open + open, 0, api.ErrOrder},
		{good + open, 0, api.ErrOrder},
		{"1 a b\n1 b a\n", 0, api.ErrConflict},
		{strings.Repeat(open, api.MaxGames+1), 0, api.ErrLarge},
		{strings.Repeat(open, api.MaxGames), 0, api.ErrOrder},
		{strings.Repeat(open, api.MaxGames+1) + "b", api.MaxGames + 1, api.ErrSyntax},
		{written(fullSeason(10, 1)), 0, api.OK},
		{written(append(fullSeason(10, 1), gameOf("2 a b"))), 0, api.ErrLarge},
		{"1 a " + key(0) + "k\n", 0, api.ErrName},
		{long, 0, api.ErrSyntax},
		{long + "x", 0, api.ErrLarge},
		{good + strings.Repeat("\n", api.MaxText-len(good)), 1, api.ErrSyntax},
		{good + strings.Repeat("\n", api.MaxText-len(good)+1), 0, api.ErrLarge},
	} {
		name := x.text[:min(len(x.text), 60)]
		g, number, e := Read(x.text)
		equal(t, name, e, x.want)
		equal(t, name+": line", number, x.number)
		if e != api.OK {
			list(t, name, g, nil)
			continue
		}
		s, e := Text(g)
		equal(t, name+": written", e, api.OK)
		equal(t, name+": written", s, x.text)
	}
}

// P7.5 and Z10: the numbers of a line.
func TestReadNumbers(t *testing.T) {
	places := []string{"# a b 1/1 1/1", "# a b", "1 a b #/1 1/1", "1 a b 1/# 1/1", "1 a b 1/1 #/1", "1 a b 1/1 1/#"}
	for _, place := range places {
		for _, word := range []string{"01", "00", "-0", "-01", "+1", "-", "1-", "1.0", "1e1", "0x1", "1_0", "a", "１", "1000000000000000", "-1000000000000000", "0000000000000001", strings.Repeat("9", 100)} {
			g, number, e := Read("1 c d\n" + strings.ReplaceAll(place, "#", word) + "\n")
			equal(t, word, e, api.ErrSyntax)
			equal(t, word, number, 1)
			list(t, word, g, nil)
		}
	}
	// Numbers of 15 digits have their form, but nothing is so great.
	for i, want := range []api.Errno{api.ErrArg, api.ErrArg, api.ErrArg, api.ErrArg, api.ErrArg, api.ErrArg} {
		_, number, e := Read(strings.ReplaceAll(places[i], "#", "999999999999999") + "\n")
		equal(t, places[i], e, want)
		equal(t, places[i], number, 0)
	}
	for i, want := range []api.Errno{api.ErrArg, api.ErrArg, api.ErrArg, api.ErrForm, api.ErrArg, api.ErrForm} {
		_, number, e := Read(strings.ReplaceAll(places[i], "#", "-999999999999999") + "\n")
		equal(t, places[i], e, want)
		equal(t, places[i], number, 0)
	}
}

// P7.5: what Text writes of any games, Read reads; as many as there can be are not too many bytes.
func TestTextPlainly(t *testing.T) {
	random := rand.New(rand.NewPCG(75, 1))
	all := [][]api.Game{fullSeason(600, api.MaxWeeks), fullSeason(600, 0), fullSeason(600, 30)}
	for range 300 {
		all = append(all, anyGames(random, anyTeams(random), random.IntN(5)))
	}
	for _, g := range all {
		s, e := Text(g)
		equal(t, "Text", e, api.OK)
		equal(t, "Text", s, written(g))
		back, number, e := Read(s)
		equal(t, "Read", e, api.OK)
		equal(t, "Read", number, 0)
		list(t, "Read", back, g)
	}
}
