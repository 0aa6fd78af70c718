package player

import (
	"math"
	"slices"
	"strings"
	"testing"

	"benchwarmer/api"
)

// P1.1: CheckPlayers.
func TestCheckPlayers(t *testing.T) {
	bare := func(key, name string, positions ...string) []api.Player {
		return []api.Player{{Key: key, Name: name, Positions: positions}}
	}
	twelve := slices.Repeat([]string{"B"}, 12)
	for _, x := range []struct {
		name string
		p    []api.Player
		want api.Errno
	}{
		{"none", nil, api.OK},
		{"ordinary", people("ann gk Ann Lee", "bob df,mf Bob"), api.OK},
		{"most", crowd(api.MaxPlayers), api.OK},
		{"too many", crowd(api.MaxPlayers + 1), api.ErrLarge},
		{"too many, and wrong", make([]api.Player, api.MaxPlayers+1), api.ErrLarge},
		{"no key", bare("", "", "B"), api.ErrName},
		{"large letter", people("Ann gk Ann"), api.ErrName},
		{"key of 40", bare(strings.Repeat("k", 40), "K", "a"), api.OK},
		{"key of 41", bare(strings.Repeat("k", 41), "K", "a"), api.ErrName},
		{"name before order", append(people("b gk B"), bare("A", " ")...), api.ErrName},
		{"same key", append(people("b gk B"), bare("b", " ")...), api.ErrOrder},
		{"falling", people("b gk B", "a gk A"), api.ErrOrder},
		{"bytes rise", people("a- gk A", "a0 gk A", "a_ gk A", "aa gk A"), api.OK},
		{"no name", bare("a", ""), api.ErrForm},
		{"blank at the end", bare("a", "A "), api.ErrForm},
		{"two blanks", bare("a", "A  B"), api.ErrForm},
		{"control", bare("a", "A\tB"), api.ErrForm},
		{"no UTF-8", bare("a", "A\xff"), api.ErrForm},
		{"name of 60", bare("a", strings.Repeat("N", 60), "gk"), api.OK},
		{"name of 61", bare("a", strings.Repeat("N", 61), "gk"), api.ErrForm},
		{"61 bytes in 31 letters", bare("a", strings.Repeat("é", 30)+"e", "gk"), api.ErrForm},
		{"no positions", bare("a", "A"), api.ErrNone},
		{"ten positions", bare("a", "A", wide(10)...), api.OK},
		{"too many positions", bare("a", "A", twelve...), api.ErrLarge},
		{"position no key", bare("a", "A", "c", "B"), api.ErrName},
		{"position twice", bare("a", "A", "c", "c", "B"), api.ErrOrder},
		{"positions fall", bare("a", "A", "c", "b"), api.ErrOrder},
		{"first one first", append(bare("a", "A"), bare("", "")...), api.ErrNone},
	} {
		equal(t, x.name, CheckPlayers(x.p), x.want)
	}
}

func stint(player, club string, week int) api.Stint {
	return api.Stint{Player: player, Club: club, Week: week}
}

// manyStints makes so many stints of p.
func manyStints(p []api.Player, many int) []api.Stint {
	var l []api.Stint
	for _, x := range p {
		for week := 1; week <= api.MaxWeeks && len(l) < many; week++ {
			l = append(l, stint(x.Key, "red", week))
		}
	}
	return l
}

// P1.1: CheckStints.
func TestCheckStints(t *testing.T) {
	p := people("ann gk Ann", "bob df Bob")
	for _, x := range []struct {
		name string
		l    []api.Stint
		want api.Errno
	}{
		{"none", nil, api.OK},
		{"ordinary", []api.Stint{stint("ann", "red", 1), stint("ann", "", 60), stint("bob", "red", 1)}, api.OK},
		{"no player", []api.Stint{stint("cat", "Red", 0)}, api.ErrNone},
		{"empty player", []api.Stint{stint("", "red", 1)}, api.ErrNone},
		{"no club's name", []api.Stint{stint("ann", "Red", 0)}, api.ErrName},
		{"week 0", []api.Stint{stint("ann", "red", 0)}, api.ErrArg},
		{"week 61", []api.Stint{stint("ann", "red", 61)}, api.ErrArg},
		{"least week", []api.Stint{stint("ann", "red", math.MinInt)}, api.ErrArg},
		{"greatest week", []api.Stint{stint("ann", "red", math.MaxInt)}, api.ErrArg},
		{"week before order", []api.Stint{stint("bob", "red", 1), stint("ann", "red", 0)}, api.ErrArg},
		{"players fall", []api.Stint{stint("bob", "red", 1), stint("ann", "red", 2)}, api.ErrOrder},
		{"weeks fall", []api.Stint{stint("ann", "red", 2), stint("ann", "red", 1)}, api.ErrOrder},
		{"same week", []api.Stint{stint("ann", "blue", 1), stint("ann", "red", 1)}, api.ErrOrder},
		{"too many, and wrong", make([]api.Stint, api.MaxStints+1), api.ErrLarge},
	} {
		equal(t, x.name, CheckStints(p, x.l), x.want)
	}
	large := crowd(20)
	equal(t, "most", CheckStints(large, manyStints(large, api.MaxStints)), api.OK)
	equal(t, "too many", CheckStints(large, manyStints(large, api.MaxStints+1)), api.ErrLarge)
	equal(t, "players first", CheckStints(people("ann gk Ann", "ann gk Ann"), []api.Stint{stint("cat", "", 1)}), api.ErrOrder)
}

// P1.1: ClubIn and Squad.
func TestClubs(t *testing.T) {
	p := people("ann gk Ann", "bob df Bob", "cat df Cat", "dan df Dan")
	l := []api.Stint{
		stint("ann", "red", 3), stint("ann", "", 5), stint("ann", "blue", 7),
		stint("bob", "blue", 1), stint("bob", "red", 60),
		stint("dan", "red", 4),
	}
	clubs := func(who string) string {
		var all []string
		for _, week := range []int{1, 2, 3, 4, 5, 6, 7, 59, 60} {
			club, e := ClubIn(p, l, who, week)
			equal(t, who, e, api.OK)
			all = append(all, club)
		}
		return strings.Join(all, ",")
	}
	equal(t, "ann", clubs("ann"), ",,red,red,,,blue,blue,blue")
	equal(t, "bob", clubs("bob"), "blue,blue,blue,blue,blue,blue,blue,blue,red")
	equal(t, "cat", clubs("cat"), ",,,,,,,,")
	equal(t, "dan", clubs("dan"), ",,,red,red,red,red,red,red")
	for _, x := range []struct {
		club string
		week int
		want string
	}{
		{"red", 1, ""}, {"red", 3, "ann"}, {"red", 4, "ann dan"}, {"red", 5, "dan"}, {"red", 60, "bob dan"},
		{"blue", 1, "bob"}, {"blue", 7, "ann bob"}, {"blue", 60, "ann"}, {"green", 4, ""},
	} {
		squad, e := Squad(p, l, x.club, x.week)
		equal(t, x.club, e, api.OK)
		list(t, x.club, squad, split(x.want))
	}
}

func TestClubErrors(t *testing.T) {
	p := people("ann gk Ann")
	for _, week := range []int{0, 61, -1, math.MinInt, math.MaxInt} {
		_, e := ClubIn(p, nil, "ann", week)
		equal(t, "ClubIn", e, api.ErrArg)
		_, e = Squad(p, nil, "red", week)
		equal(t, "Squad", e, api.ErrArg)
	}
	for _, who := range []string{"", "an", "bob", "Ann"} {
		_, e := ClubIn(p, nil, who, 0)
		equal(t, who, e, api.ErrNone)
	}
	for _, club := range []string{"", "Red", "re d"} {
		_, e := Squad(p, nil, club, 0)
		equal(t, club, e, api.ErrName)
	}
}
