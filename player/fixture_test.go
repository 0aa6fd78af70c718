package player

import (
	"math"
	"testing"

	"benchwarmer/api"
)

func fixture(week, at int, home, away string) api.Fixture {
	return api.Fixture{Week: week, At: at, Home: home, Away: away}
}

func manyFixtures(many int) []api.Fixture {
	var f []api.Fixture
	for i := range many {
		f = append(f, fixture(1+i/100, i, "red", "blue"))
	}
	return f
}

// P1.3: CheckFixtures.
func TestCheckFixtures(t *testing.T) {
	for _, x := range []struct {
		name string
		f    []api.Fixture
		want api.Errno
	}{
		{"none", nil, api.OK},
		{"ordinary", []api.Fixture{fixture(1, 9, "red", "blue"), fixture(2, 3, "blue", "red"), fixture(2, 3, "red", "blue"), fixture(2, 4, "blue", "red")}, api.OK},
		{"bounds", []api.Fixture{fixture(1, 0, "red", "blue"), fixture(60, api.End-1, "red", "blue")}, api.OK},
		{"most", manyFixtures(api.MaxFixtures), api.OK},
		{"too many", manyFixtures(api.MaxFixtures + 1), api.ErrLarge},
		{"too many, and wrong", make([]api.Fixture, api.MaxFixtures+1), api.ErrLarge},
		{"week 0", []api.Fixture{fixture(0, 1, "Red", "blue")}, api.ErrArg},
		{"week 61", []api.Fixture{fixture(61, 1, "red", "blue")}, api.ErrArg},
		{"before the first moment", []api.Fixture{fixture(1, -1, "red", "Blue")}, api.ErrArg},
		{"after the last moment", []api.Fixture{fixture(1, api.End, "red", "blue")}, api.ErrArg},
		{"least ints", []api.Fixture{fixture(math.MinInt, math.MinInt, "red", "blue")}, api.ErrArg},
		{"greatest ints", []api.Fixture{fixture(math.MaxInt, math.MaxInt, "red", "blue")}, api.ErrArg},
		{"home no key", []api.Fixture{fixture(1, 1, "", "blue")}, api.ErrName},
		{"away no key", []api.Fixture{fixture(1, 1, "red", "Blue")}, api.ErrName},
		{"no keys, the same", []api.Fixture{fixture(1, 1, "", "")}, api.ErrName},
		{"the same", []api.Fixture{fixture(1, 1, "red", "red")}, api.ErrTwice},
		{"the same before order", []api.Fixture{fixture(2, 1, "red", "blue"), fixture(1, 1, "red", "red")}, api.ErrTwice},
		{"weeks fall", []api.Fixture{fixture(2, 1, "red", "blue"), fixture(1, 2, "red", "blue")}, api.ErrOrder},
		{"moments fall", []api.Fixture{fixture(1, 2, "blue", "red"), fixture(1, 1, "red", "blue")}, api.ErrOrder},
		{"homes fall", []api.Fixture{fixture(1, 1, "red", "blue"), fixture(1, 1, "blue", "red")}, api.ErrOrder},
		{"same home", []api.Fixture{fixture(1, 1, "red", "blue"), fixture(1, 1, "red", "green")}, api.ErrOrder},
		{"first one first", []api.Fixture{fixture(1, 1, "red", "red"), fixture(0, 1, "red", "blue")}, api.ErrTwice},
	} {
		equal(t, x.name, CheckFixtures(x.f), x.want)
	}
}

func season() []api.Fixture {
	return []api.Fixture{
		fixture(1, 10, "red", "blue"),
		fixture(2, 50, "blue", "green"), fixture(2, 50, "red", "pink"), fixture(2, 60, "green", "red"), fixture(2, 70, "blue", "red"),
		fixture(4, 20, "pink", "red"),
	}
}

// P1.3: Games and Idle.
func TestGames(t *testing.T) {
	f := season()
	for _, x := range []struct {
		club string
		week int
		want []api.Fixture
	}{
		{"red", 1, f[:1]}, {"blue", 1, f[:1]}, {"green", 1, nil}, {"white", 1, nil},
		{"blue", 2, []api.Fixture{f[1], f[4]}}, {"red", 2, f[2:5]}, {"green", 2, []api.Fixture{f[1], f[3]}},
		{"red", 3, nil}, {"red", 4, f[5:]}, {"pink", 4, f[5:]}, {"red", 60, nil},
	} {
		games, e := Games(f, x.club, x.week)
		equal(t, x.club, e, api.OK)
		list(t, x.club, games, x.want)
	}
	for week, want := range map[int]string{1: "green pink", 2: "", 3: "blue green pink red", 4: "blue green", 60: "blue green pink red"} {
		idle, e := Idle(f, week)
		equal(t, "Idle", e, api.OK)
		list(t, "Idle "+number(week), idle, split(want))
	}
	idle, e := Idle(nil, 1)
	equal(t, "Idle of none", e, api.OK)
	list(t, "Idle of none", idle, nil)
}

// P1.3: First.
func TestFirst(t *testing.T) {
	p := people("ann gk Ann", "bob df Bob", "cat df Cat", "dan df Dan")
	l := []api.Stint{stint("ann", "red", 1), stint("ann", "green", 2), stint("ann", "", 4), stint("bob", "white", 1), stint("cat", "blue", 2)}
	for _, x := range []struct {
		who      string
		week, at int
		plays    bool
	}{
		{"ann", 1, 10, true}, {"ann", 2, 50, true}, {"ann", 3, 0, false}, {"ann", 4, 0, false},
		{"bob", 1, 0, false}, {"cat", 1, 0, false}, {"cat", 2, 50, true}, {"dan", 1, 0, false},
	} {
		at, plays, e := First(p, l, season(), x.who, x.week)
		equal(t, x.who, e, api.OK)
		equal(t, x.who+" plays", plays, x.plays)
		equal(t, x.who+" at", at, x.at)
	}
	at, plays, _ := First(p, l, []api.Fixture{fixture(1, 0, "blue", "red")}, "ann", 1)
	equal(t, "at 0", at, 0)
	equal(t, "at 0", plays, true)
}

// P1.3: Fieldable.
func TestFieldable(t *testing.T) {
	p := people("ann gk Ann", "bob df Bob", "cat df Cat", "dan df Dan", "eve df Eve", "fay df Fay")
	l := []api.Stint{
		stint("ann", "red", 1), stint("bob", "green", 1), stint("cat", "blue", 1), stint("cat", "", 4),
		stint("eve", "pink", 4), stint("fay", "white", 1),
	}
	h := []api.Health{health("ann", 2, 4, api.HealthDoubt), health("bob", 2, 3, api.HealthOut), health("cat", 1, 2, api.HealthOut)}
	for _, x := range []struct {
		week, at int
		want     string
	}{
		{1, 0, "ann"}, {1, 9, "ann"}, {1, 10, ""}, {1, 11, ""},
		{2, 0, "ann cat"}, {2, 49, "ann cat"}, {2, 50, ""}, {2, 55, ""},
		{3, 0, ""}, {4, 0, "ann eve"}, {4, 19, "ann eve"}, {4, 20, ""}, {4, api.End - 1, ""},
	} {
		who, e := Fieldable(p, l, h, season(), x.week, x.at)
		equal(t, "Fieldable", e, api.OK)
		list(t, "Fieldable "+number(x.week)+" "+number(x.at%10_000), who, split(x.want))
	}
	who, _ := Fieldable(p, l, nil, season(), 2, 49)
	list(t, "all are fit", who, split("ann bob cat"))
}

func TestFixtureErrors(t *testing.T) {
	p := people("ann gk Ann")
	for _, week := range []int{0, 61, math.MinInt, math.MaxInt} {
		_, e := Games(nil, "red", week)
		equal(t, "Games", e, api.ErrArg)
		_, e = Games(nil, "Red", week)
		equal(t, "Games", e, api.ErrName)
		_, e = Idle(nil, week)
		equal(t, "Idle", e, api.ErrArg)
		_, _, e = First(p, nil, nil, "ann", week)
		equal(t, "First", e, api.ErrArg)
		_, _, e = First(p, nil, nil, "bob", week)
		equal(t, "First", e, api.ErrNone)
		_, e = Fieldable(p, nil, nil, nil, week, 0)
		equal(t, "Fieldable", e, api.ErrArg)
	}
	for _, at := range []int{-1, api.End, math.MinInt, math.MaxInt} {
		_, e := Fieldable(p, nil, nil, nil, 1, at)
		equal(t, "Fieldable", e, api.ErrArg)
	}
}
