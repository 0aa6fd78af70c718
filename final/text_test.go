package final

import (
	"fmt"
	"math/rand/v2"
	"strings"
	"testing"

	"benchwarmer/api"
)

// P9.5: Text, and Read of it.
func TestText(t *testing.T) {
	for _, x := range []struct {
		honours, want string
	}{
		{"", ""},
		{"1 1 a", "1 1 a 0/1\n"},
		{"3 1 b 1/2", "3 1 b 1/2\n"},
		{"1 1 a 5,1 2 b -7/100,2 1 a", "1 1 a 5/1\n1 2 b -7/100\n2 1 a 0/1\n"},
		{"200 20 a-_0 -99999999/100", "200 20 a-_0 -99999999/100\n"},
		{"7 10 z 1000000", "7 10 z 1000000/1\n"},
	} {
		s, e := Text(honours(x.honours))
		equal(t, x.honours, e, api.OK)
		equal(t, x.honours, s, x.want)
		h, number, e := Read(x.want)
		equal(t, x.honours, e, api.OK)
		equal(t, x.honours, number, 0)
		list(t, x.honours, h, honours(x.honours))
	}
}

// written writes honours, right or wrong, in the form of Text.
func written(h []api.Honour) string {
	var b strings.Builder
	for _, x := range h {
		fmt.Fprintf(&b, "%d %d %s %d/%d\n", x.Season, x.Place, x.Team, x.Points.Num, x.Points.Den)
	}
	return b.String()
}

// filling makes honours whose text has as many bytes as it can have.
func filling() []api.Honour {
	h := fullHonours()
	over := len(written(h)) - api.MaxText
	for i := range h {
		cut := min(over, api.MaxName-1)
		h[i].Team = h[i].Team[:api.MaxName-cut]
		over -= cut
	}
	return h
}

// P9.5: errors of Text.
func TestTextErrors(t *testing.T) {
	for _, x := range []struct {
		name string
		h    []api.Honour
		want api.Errno
	}{
		{"season", honours("0 1 a"), api.ErrArg},
		{"team", honours("1 1 A"), api.ErrName},
		{"form", honours("1 1 a 2/4"), api.ErrForm},
		{"points", honours("1 1 a 1/3"), api.ErrArg},
		{"order", honours("1 1 a,1 1 a"), api.ErrOrder},
		{"too many", append(fullHonours(), honour("1 1 a")), api.ErrLarge},
		{"too many bytes", fullHonours(), api.ErrLarge},
		{"too many bytes, and wrong", append(fullHonours()[1:], honour("1 1 a")), api.ErrOrder},
	} {
		s, e := Text(x.h)
		equal(t, x.name, e, x.want)
		equal(t, x.name, s, "")
	}
}

// P9.5: a text has as many bytes as it can have, and one more.
func TestTextBound(t *testing.T) {
	h := filling()
	s, e := Text(h)
	equal(t, "as many bytes as there can be", e, api.OK)
	equal(t, "as many bytes as there can be", len(s), api.MaxText)
	back, number, e := Read(s)
	equal(t, "as many bytes as there can be", e, api.OK)
	equal(t, "as many bytes as there can be", number, 0)
	list(t, "as many bytes as there can be", back, h)
	h[0].Team += "k"
	s, e = Text(h)
	equal(t, "one more", e, api.ErrLarge)
	equal(t, "one more", s, "")
	back, number, e = Read(written(h))
	equal(t, "one more", e, api.ErrLarge)
	equal(t, "one more", number, 0)
	list(t, "one more", back, nil)
}

// P9.5: texts that Read accepts, and how it errs with others.
func TestRead(t *testing.T) {
	const good, next = "1 1 a 1/2\n", "1 2 b -3/1\n"
	long := strings.Repeat("x", api.MaxText)
	tooMany := strings.Repeat(good, maxHonours+1)
	for _, x := range []struct {
		text   string
		number int
		want   api.Errno
	}{
		{"", 0, api.OK},
		{good, 0, api.OK},
		{good + next, 0, api.OK},
		{"1 1 a 1/2", 0, api.ErrSyntax},
		{good + "1 2 b 1/1", 1, api.ErrSyntax},
		{"\n", 0, api.ErrSyntax},
		{good + "\n", 1, api.ErrSyntax},
		{good + "\n" + next, 1, api.ErrSyntax},
		{"1\n", 0, api.ErrSyntax},
		{"1 1\n", 0, api.ErrSyntax},
		{"1 1 a\n", 0, api.ErrSyntax},
		{"1 1 a 1/2 1\n", 0, api.ErrSyntax},
		{"1 a 1 1/2\n", 0, api.ErrSyntax},
		{"a 1 1 1/2\n", 0, api.ErrSyntax},
		{"1 1 1/2 a\n", 0, api.ErrSyntax},
		{"1 x a 1/2\n", 0, api.ErrSyntax},
		{"1/1 1 a 1/2\n", 0, api.ErrSyntax},
		{"1 1 a 1\n", 0, api.ErrSyntax},
		{"1 1 a 1/\n", 0, api.ErrSyntax},
		{"1 1 a /1\n", 0, api.ErrSyntax},
		{"1 1 a /\n", 0, api.ErrSyntax},
		{"1 1 a 1/1/1\n", 0, api.ErrSyntax},
		{"1 1 a 1.5/1\n", 0, api.ErrSyntax},
		{" 1 1 a 1/2\n", 0, api.ErrSyntax},
		{"1 1 a 1/2 \n", 0, api.ErrSyntax},
		{"1  1 a 1/2\n", 0, api.ErrSyntax},
		{"1 1 a  1/2\n", 0, api.ErrSyntax},
		{"1 1  1/2\n", 0, api.ErrSyntax},
		{"1 1 a \n", 0, api.ErrSyntax},
		{" 1 a 1/2\n", 0, api.ErrSyntax},
		{"1\t1 a 1/2\n", 0, api.ErrSyntax},
		{"1 1 a 1/2\r\n", 0, api.ErrSyntax},
		{good + next + "x\ny\n", 2, api.ErrSyntax},
		{"0 1 a 1/2\nx\n", 1, api.ErrSyntax},
		{good + good + "x\n", 2, api.ErrSyntax},
		{"0 1 a 1/2\n", 0, api.ErrArg},
		{"-1 1 a 1/2\n", 0, api.ErrArg},
		{"201 1 a 1/2\n", 0, api.ErrArg},
		{"1 21 a 1/2\n", 0, api.ErrArg},
		{"200 20 a 1/2\n", 0, api.OK},
		{"1 1 A 1/2\n", 0, api.ErrName},
		{"1 1 1 1/2\n", 0, api.ErrName},
		{"1 1 a\xff 1/2\n", 0, api.ErrName},
		{"1 1 " + key(0) + " 1/2\n", 0, api.OK},
		{"1 1 " + key(0) + "k 1/2\n", 0, api.ErrName},
		{"1 1 a 2/4\n", 0, api.ErrForm},
		{"1 1 a 0/0\n", 0, api.ErrForm},
		{"1 1 a 1/0\n", 0, api.ErrForm},
		{"1 1 a 1/-1\n", 0, api.ErrForm},
		{"1 1 a 1/3\n", 0, api.ErrArg},
		{"1 1 a 1000000/1\n", 0, api.OK},
		{"1 1 a 1000001/1\n", 0, api.ErrArg},
		{"1 1 a -1000001/1\n", 0, api.ErrArg},
		{good + good, 0, api.ErrOrder},
		{next + good, 0, api.ErrOrder},
		{tooMany, 0, api.ErrLarge},
		{tooMany + "x", maxHonours + 1, api.ErrSyntax},
		{long, 0, api.ErrSyntax},
		{long + "x", 0, api.ErrLarge},
		{good + strings.Repeat("\n", api.MaxText-len(good)), 1, api.ErrSyntax},
		{good + strings.Repeat("\n", api.MaxText-len(good)+1), 0, api.ErrLarge},
	} {
		name := x.text[:min(len(x.text), 60)]
		h, number, e := Read(x.text)
		equal(t, name, e, x.want)
		equal(t, name+": line", number, x.number)
		if e != api.OK {
			list(t, name, h, nil)
			continue
		}
		s, e := Text(h)
		equal(t, name+": written", e, api.OK)
		equal(t, name+": written", s, x.text)
	}
}

// P9.5 and Z10: the numbers of a line.
func TestReadNumbers(t *testing.T) {
	for _, x := range []struct {
		place       string
		great, less api.Errno // of numbers of 15 digits, which have their form
	}{
		{"# 2 b 1/1", api.ErrArg, api.ErrArg},
		{"2 # b 1/1", api.ErrArg, api.ErrArg},
		{"2 2 b #/1", api.ErrArg, api.ErrArg},
		{"2 2 b 1/#", api.ErrArg, api.ErrForm},
	} {
		for _, word := range []string{"01", "00", "-0", "-01", "+1", "-", "1-", "--1", "1.0", "1e1", "0x1", "1_0", "a", "１", "1000000000000000", "-1000000000000000", "0000000000000001", strings.Repeat("9", 100)} {
			h, number, e := Read("1 1 a 0/1\n" + strings.ReplaceAll(x.place, "#", word) + "\n")
			equal(t, x.place+": "+word, e, api.ErrSyntax)
			equal(t, x.place+": "+word, number, 1)
			list(t, x.place+": "+word, h, nil)
		}
		const great = "999999999999999"
		_, number, e := Read(strings.ReplaceAll(x.place, "#", great) + "\n")
		equal(t, x.place, e, x.great)
		equal(t, x.place, number, 0)
		_, number, e = Read(strings.ReplaceAll(x.place, "#", "-"+great) + "\n")
		equal(t, x.place, e, x.less)
		equal(t, x.place, number, 0)
	}
}

// P9.5: what Text writes of any honours, Read reads.
func TestTextPlainly(t *testing.T) {
	random := rand.New(rand.NewPCG(95, 1))
	for range 300 {
		h := anyHonours(random)
		s, e := Text(h)
		equal(t, "Text", e, api.OK)
		equal(t, "Text", s, written(h))
		back, number, e := Read(s)
		equal(t, "Read", e, api.OK)
		equal(t, "Read", number, 0)
		list(t, "Read", back, h)
	}
}
