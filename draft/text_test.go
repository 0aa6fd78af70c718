package draft

import (
	"math"
	"math/rand/v2"
	"strings"
	"testing"

	"benchwarmer/api"
)

// P4.5: Text.
func TestText(t *testing.T) {
	for _, lines := range [][]string{
		nil,
		{"0 a p9 150"},
		{"0 a p9 150", "1 b p2 1150 auto", "2 c p1 2150 auto"},
		{"600 a-_0 a-_0 345686399999 auto", "0 b b 0", "0 b b 0"},
	} {
		want := ""
		for _, line := range lines {
			want += line + "\n"
		}
		s, e := Text(picks(lines...))
		equal(t, "Text", e, api.OK)
		equal(t, "Text", s, want)
		l, number, e := Read(want)
		equal(t, want, e, api.OK)
		equal(t, want, number, 0)
		list(t, want, l, picks(lines...))
	}
}

// P4.5: errors of Text.
func TestTextErrors(t *testing.T) {
	for _, x := range []struct {
		name string
		l    []api.Pick
		want api.Errno
	}{
		{"number below 0", picks("-1 A p1 0"), api.ErrArg},
		{"number too great", picks("601 a p1 0"), api.ErrArg},
		{"least number", []api.Pick{{No: math.MinInt, Team: "a", Player: "p1"}}, api.ErrArg},
		{"greatest number", []api.Pick{{No: math.MaxInt, Team: "a", Player: "p1"}}, api.ErrArg},
		{"team no key", picks("0 A p1 -1"), api.ErrName},
		{"player no key", picks("0 a P1 -1"), api.ErrName},
		{"player too long", picks("0 a " + key(0) + "k 0"), api.ErrName},
		{"an open one", []api.Pick{{Team: "a"}}, api.ErrName},
		{"moment below 0", picks("0 a p1 -1"), api.ErrArg},
		{"no moment", []api.Pick{{Team: "a", Player: "p1", At: api.End}}, api.ErrArg},
		{"first one first", picks("0 a p1 -1", "0 A p1 0"), api.ErrArg},
		{"too many", manyPicks(api.MaxPicks + 1), api.ErrLarge},
		{"too many, and wrong", make([]api.Pick, api.MaxPicks+1), api.ErrLarge},
	} {
		s, e := Text(x.l)
		equal(t, x.name, e, x.want)
		equal(t, x.name, s, "")
	}
}

// manyPicks makes so many picks, as large as they can be.
func manyPicks(many int) []api.Pick {
	var l []api.Pick
	for i := range many {
		l = append(l, api.Pick{No: api.MaxPicks, Team: key(i % api.MaxTeams), Player: key(i), At: api.End - 1, Auto: true})
	}
	return l
}

// P4.5: picks have never more than MaxText bytes.
func TestTextMost(t *testing.T) {
	s, e := Text(manyPicks(api.MaxPicks))
	equal(t, "most", e, api.OK)
	equal(t, "most", len(s), api.MaxPicks*len("600 "+key(0)+" "+key(0)+" 345686399999 auto\n"))
	l, _, e := Read(s)
	equal(t, "most", e, api.OK)
	list(t, "most", l, manyPicks(api.MaxPicks))
}

// P4.5: texts that Read accepts, and how it errs with others.
func TestRead(t *testing.T) {
	line := "0 a p9 150\n"
	long := strings.Repeat("x", api.MaxText)
	for _, x := range []struct {
		text   string
		number int
		want   api.Errno
	}{
		{"", 0, api.OK},
		{line, 0, api.OK},
		{line + line + "600 b p2 1150 auto\n", 0, api.OK},
		{"0 a p9 150", 0, api.ErrSyntax},
		{line + "1 b p2 1150 auto", 1, api.ErrSyntax},
		{"\n", 0, api.ErrSyntax},
		{line + "\n" + line, 1, api.ErrSyntax},
		{"0 a p9\n", 0, api.ErrSyntax},
		{"0 a p9 auto\n", 0, api.ErrSyntax},
		{"0 a p9 150 auto auto\n", 0, api.ErrSyntax},
		{"0 a p9 150 Auto\n", 0, api.ErrSyntax},
		{"0 a p9 150 -\n", 0, api.ErrSyntax},
		{"0 a p9 150 0\n", 0, api.ErrSyntax},
		{"0 a p9 150 \n", 0, api.ErrSyntax},
		{" 0 a p9 150\n", 0, api.ErrSyntax},
		{"0  p9 150\n", 0, api.ErrSyntax},
		{"0 a  150\n", 0, api.ErrSyntax},
		{" a p9 150\n", 0, api.ErrSyntax},
		{"0 a p9 150  auto\n", 0, api.ErrSyntax},
		{"0 a\tp9 150\n", 0, api.ErrSyntax},
		{"0 a p9 150\r\n", 0, api.ErrSyntax},
		{line + "1 B p2\n", 1, api.ErrSyntax},
		{"601 B p2 1\nb\n", 1, api.ErrSyntax},
		{"601 B p2 -1\n", 0, api.ErrArg},
		{"-1 B p2 -1\n", 0, api.ErrArg},
		{"0 B p2 -1\n", 0, api.ErrName},
		{"0 b - -1\n", 0, api.ErrName},
		{"0 b p\xff -1\n", 0, api.ErrName},
		{"0 b p2 -1\n", 0, api.ErrArg},
		{"0 b p2 345686400000\n", 0, api.ErrArg},
		{line + "0 b P2 1\n", 0, api.ErrName},
		{strings.Repeat(line, api.MaxPicks), 0, api.OK},
		{strings.Repeat(line, api.MaxPicks+1), 0, api.ErrLarge},
		{strings.Repeat(line, api.MaxPicks+1) + "b", api.MaxPicks + 1, api.ErrSyntax},
		{long, 0, api.ErrSyntax},
		{long + "x", 0, api.ErrLarge},
		{line + strings.Repeat("\n", api.MaxText-len(line)), 1, api.ErrSyntax},
	} {
		name := x.text[:min(len(x.text), 60)]
		l, number, e := Read(x.text)
		equal(t, name, e, x.want)
		equal(t, name+": line", number, x.number)
		if e != api.OK {
			list(t, name+": picks with an error", l, nil)
			continue
		}
		s, e := Text(l)
		equal(t, name+": written", e, api.OK)
		equal(t, name+": written", s, x.text)
	}
}

// P4.5 and Z10: the numbers of a line.
func TestReadNumbers(t *testing.T) {
	for _, word := range []string{"01", "00", "-0", "-01", "+1", "-", "1-", "1.0", "1e1", "0x1", "1_0", "a", "１", "1000000000000000", "-1000000000000000", "0000000000000001", strings.Repeat("9", 100)} {
		for _, line := range []string{word + " a p1 1\n", "1 a p1 " + word + "\n", "1 a p1 " + word + " auto\n"} {
			_, number, e := Read(line)
			equal(t, line, e, api.ErrSyntax)
			equal(t, line, number, 0)
		}
	}
	// Numbers of 15 digits have their form, but none of them can be so great.
	for _, word := range []string{"999999999999999", "-999999999999999"} {
		for _, line := range []string{word + " a p1 1\n", "1 a p1 " + word + "\n"} {
			_, _, e := Read(line)
			equal(t, line, e, api.ErrArg)
		}
	}
}

// P4.5: what Text writes of any game's picks, Read reads.
func TestTextPlainly(t *testing.T) {
	random := rand.New(rand.NewPCG(45, 1))
	for range 200 {
		g := anyGame(random)
		all, _ := Finish(g.r, g.k, g.s, g.l, g.w)
		s, e := Text(all)
		equal(t, "Text", e, api.OK)
		back, number, e := Read(s)
		equal(t, "Read", e, api.OK)
		equal(t, "Read", number, 0)
		list(t, "Read", back, all)
	}
}
