package player

import (
	"math"
	"strings"
	"testing"

	"benchwarmer/api"
)

func appear(player, position string, week int) api.Appear {
	return api.Appear{Player: player, Position: position, Week: week}
}

// manyAppears makes so many appearances of p.
func manyAppears(p []api.Player, many int) []api.Appear {
	var a []api.Appear
	for _, x := range p {
		for week := 1; week <= api.MaxWeeks && len(a) < many; week++ {
			a = append(a, appear(x.Key, "gk", week))
		}
	}
	return a
}

// P1.4: CheckAppears.
func TestCheckAppears(t *testing.T) {
	p := people("ann gk Ann", "bob df Bob")
	for _, x := range []struct {
		name string
		a    []api.Appear
		want api.Errno
	}{
		{"none", nil, api.OK},
		{"ordinary", []api.Appear{appear("ann", "df", 2), appear("ann", "df", 60), appear("ann", "gk", 1), appear("bob", "df", 1)}, api.OK},
		{"no player", []api.Appear{appear("cat", "Gk", 0)}, api.ErrNone},
		{"no position's name", []api.Appear{appear("ann", "Gk", 0)}, api.ErrName},
		{"no position", []api.Appear{appear("ann", "", 1)}, api.ErrName},
		{"week 0", []api.Appear{appear("ann", "gk", 0)}, api.ErrArg},
		{"week 61", []api.Appear{appear("ann", "gk", 61)}, api.ErrArg},
		{"least week", []api.Appear{appear("ann", "gk", math.MinInt)}, api.ErrArg},
		{"week before order", []api.Appear{appear("bob", "gk", 1), appear("ann", "gk", 0)}, api.ErrArg},
		{"players fall", []api.Appear{appear("bob", "df", 1), appear("ann", "gk", 2)}, api.ErrOrder},
		{"positions fall", []api.Appear{appear("ann", "gk", 1), appear("ann", "df", 2)}, api.ErrOrder},
		{"weeks fall", []api.Appear{appear("ann", "gk", 2), appear("ann", "gk", 1)}, api.ErrOrder},
		{"same week", []api.Appear{appear("ann", "gk", 2), appear("ann", "gk", 2)}, api.ErrOrder},
		{"too many, and wrong", make([]api.Appear, api.MaxAppears+1), api.ErrLarge},
	} {
		equal(t, x.name, CheckAppears(p, x.a), x.want)
	}
	large := crowd(40)
	equal(t, "most", CheckAppears(large, manyAppears(large, api.MaxAppears)), api.OK)
	equal(t, "too many", CheckAppears(large, manyAppears(large, api.MaxAppears+1)), api.ErrLarge)
	equal(t, "players first", CheckAppears(people("ann gk Ann", "ann gk Ann"), []api.Appear{appear("cat", "gk", 1)}), api.ErrOrder)
}

// grows tests the positions of the players that Grown returns, written as in Text.
func grows(t *testing.T, p []api.Player, a []api.Appear, least, week int, want ...string) {
	t.Helper()
	grown, e := Grown(p, a, least, week)
	equal(t, "Grown", e, api.OK)
	if !samePlayers(grown, people(want...)) {
		t.Errorf("least %d, week %d: got %v, want %v", least, week, grown, want)
	}
}

// P1.4: Grown.
func TestGrown(t *testing.T) {
	p := people("ann gk Ann Lee", "bob df,mf Bob", "cat st Cat")
	a := []api.Appear{
		appear("ann", "df", 1), appear("ann", "df", 3), appear("ann", "df", 4), appear("ann", "st", 4),
		appear("bob", "df", 1), appear("bob", "gk", 2), appear("bob", "lw", 5), appear("bob", "lw", 60),
		appear("cat", "lw", 60),
	}
	grows(t, p, nil, 1, 60, "ann gk Ann Lee", "bob df,mf Bob", "cat st Cat")
	grows(t, p, a, 1, 1, "ann df,gk Ann Lee", "bob df,mf Bob", "cat st Cat")
	grows(t, p, a, 1, 4, "ann df,gk,st Ann Lee", "bob df,gk,mf Bob", "cat st Cat")
	grows(t, p, a, 1, 60, "ann df,gk,st Ann Lee", "bob df,gk,lw,mf Bob", "cat lw,st Cat")
	grows(t, p, a, 2, 2, "ann gk Ann Lee", "bob df,mf Bob", "cat st Cat")
	grows(t, p, a, 2, 3, "ann df,gk Ann Lee", "bob df,mf Bob", "cat st Cat")
	grows(t, p, a, 2, 59, "ann df,gk Ann Lee", "bob df,mf Bob", "cat st Cat")
	grows(t, p, a, 2, 60, "ann df,gk Ann Lee", "bob df,lw,mf Bob", "cat st Cat")
	grows(t, p, a, 3, 3, "ann gk Ann Lee", "bob df,mf Bob", "cat st Cat")
	grows(t, p, a, 3, 4, "ann df,gk Ann Lee", "bob df,mf Bob", "cat st Cat")
	grows(t, p, a, 4, 60, "ann gk Ann Lee", "bob df,mf Bob", "cat st Cat")
	grows(t, p, a, 60, 60, "ann gk Ann Lee", "bob df,mf Bob", "cat st Cat")
	grows(t, nil, nil, 1, 1)

	always := manyAppears(people("bob df Bob"), 60)
	grows(t, people("bob df Bob"), always, 60, 60, "bob df,gk Bob")
	grows(t, people("bob df Bob"), always, 60, 59, "bob df Bob")
}

// P1.4: the errors of Grown, ErrFull last.
func TestGrownErrors(t *testing.T) {
	full := []api.Player{{Key: "ann", Name: "Ann", Positions: wide(api.MaxPositions)}}
	room := []api.Player{{Key: "ann", Name: "Ann", Positions: wide(api.MaxPositions)[1:]}}
	a := []api.Appear{appear("ann", "gk", 3)}
	for _, x := range []struct {
		name        string
		p           []api.Player
		least, week int
		want        api.Errno
	}{
		{"full", full, 1, 3, api.ErrFull}, {"not yet", full, 1, 2, api.OK}, {"too rare", full, 2, 60, api.OK}, {"one more", room, 1, 3, api.OK},
		{"least 0", full, 0, 3, api.ErrArg}, {"least 61", full, 61, 3, api.ErrArg},
		{"least least", full, math.MinInt, 3, api.ErrArg}, {"greatest least", full, math.MaxInt, 3, api.ErrArg},
		{"week 0", full, 1, 0, api.ErrArg}, {"week 61", full, 1, 61, api.ErrArg},
	} {
		_, e := Grown(x.p, a, x.least, x.week)
		equal(t, x.name, e, x.want)
	}
	_, e := Grown(full, []api.Appear{appear("ann", full[0].Positions[0], 3)}, 1, 3)
	equal(t, "a position that is there", e, api.OK)
}

// P1.4: In.
func TestIn(t *testing.T) {
	p := people("ann gk Ann", "bob df,mf Bob", "cat mf,st Cat", "dan d Dan")
	for position, want := range map[string]string{"gk": "ann", "mf": "bob cat", "df": "bob", "st": "cat", "d": "dan", "lw": "", "m": ""} {
		who, e := In(p, position)
		equal(t, position, e, api.OK)
		list(t, position, who, split(want))
	}
	for _, position := range []string{"", "Gk", "g k", strings.Repeat("p", 41)} {
		_, e := In(p, position)
		equal(t, position, e, api.ErrName)
	}
}
