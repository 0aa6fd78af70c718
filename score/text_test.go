package score

import (
	"math/rand/v2"
	"strings"
	"testing"

	"benchwarmer/api"
)

// P3.5: Text.
func TestText(t *testing.T) {
	for _, lines := range [][]string{
		nil,
		{"a yard - each 0 1/25"},
		{"a yard - each 0 1/25", "b yard - from 100 3/1", "c goal gk none 0 4/1", "d save - step 3 -1/2", "e save g-_0 step 100000 -10000/1", "f foul - each 0 0/1"},
	} {
		want := ""
		for _, line := range lines {
			want += line + "\n"
		}
		s, e := Text(rules(lines...))
		equal(t, "Text", e, api.OK)
		equal(t, "Text", s, want)
		r, number, e := Read(want)
		equal(t, want, e, api.OK)
		equal(t, want, number, 0)
		list(t, want, r, rules(lines...))
	}
	s, e := Text(rules("b yard - each 0 1", "a yard - each 0 1"))
	equal(t, "rules first", e, api.ErrOrder)
	equal(t, "rules first", s, "")
}

// P3.5: rules have never more than MaxText bytes.
func TestTextMost(t *testing.T) {
	s, e := Text(manyRules(api.MaxRules))
	equal(t, "most", e, api.OK)
	equal(t, "most", len(s), api.MaxRules*len(key(0)+" "+key(0)+" "+key(0)+" step 100000 -999999/100\n"))
	r, _, e := Read(s)
	equal(t, "most", e, api.OK)
	list(t, "most", r, manyRules(api.MaxRules))
	_, e = Text(manyRules(api.MaxRules + 1))
	equal(t, "too many", e, api.ErrLarge)
}

// P3.5: texts that Read accepts, and how it errs with others.
func TestRead(t *testing.T) {
	line := "b yard - each 0 1/25\n"
	long := strings.Repeat("x", api.MaxText)
	for _, x := range []struct {
		text   string
		number int
		want   api.Errno
	}{
		{"", 0, api.OK},
		{line, 0, api.OK},
		{line + "c goal gk from 100000 -1/2\n", 0, api.OK},
		{"b yard - each 0 1/25", 0, api.ErrSyntax},
		{line + "c yard - each 0 1/25", 1, api.ErrSyntax},
		{"\n", 0, api.ErrSyntax},
		{line + "\n" + line, 1, api.ErrSyntax},
		{"b yard - each 0\n", 0, api.ErrSyntax},
		{"b yard - each 1/25\n", 0, api.ErrSyntax},
		{"b yard each 0 1/25\n", 0, api.ErrSyntax},
		{"b yard - each 0 1/25 1\n", 0, api.ErrSyntax},
		{"b yard - each 0 1 25\n", 0, api.ErrSyntax},
		{"b yard - each 0 1/25 \n", 0, api.ErrSyntax},
		{" b yard - each 0 1/25\n", 0, api.ErrSyntax},
		{"b  - each 0 1/25\n", 0, api.ErrSyntax},
		{"b yard  each 0 1/25\n", 0, api.ErrSyntax},
		{" yard - each 0 1/25\n", 0, api.ErrSyntax},
		{"b\tyard - each 0 1/25\n", 0, api.ErrSyntax},
		{"b yard - each 0 1/25\r\n", 0, api.ErrSyntax},
		{"b yard - Each 0 1/25\n", 0, api.ErrSyntax},
		{"b yard - any 0 1/25\n", 0, api.ErrSyntax},
		{"b yard - - 0 1/25\n", 0, api.ErrSyntax},
		{"b yard - 1 0 1/25\n", 0, api.ErrSyntax},
		{"b yard - each - 1/25\n", 0, api.ErrSyntax},
		{"b yard - each 0 1\n", 0, api.ErrSyntax},
		{"b yard - each 0 /\n", 0, api.ErrSyntax},
		{"b yard - each 0 1/2/3\n", 0, api.ErrSyntax},
		{"b yard - each 0 0.5\n", 0, api.ErrSyntax},
		{line + "C yard\n", 1, api.ErrSyntax},
		{"B yard - each 0 1/25\nb\n", 1, api.ErrSyntax},
		{"B yard - each 0 1/25\n", 0, api.ErrName},
		{"- yard - each 0 1/25\n", 0, api.ErrName},
		{"b - - each 0 1/25\n", 0, api.ErrName},
		{"b yard -- each 0 1/25\n", 0, api.ErrName},
		{"b yard Gk each 0 1/25\n", 0, api.ErrName},
		{"b yard \xff each 0 1/25\n", 0, api.ErrName},
		{"b yard - each 1 1/25\n", 0, api.ErrArg},
		{"b yard - step 0 1/25\n", 0, api.ErrArg},
		{"b yard - from -1 1/25\n", 0, api.ErrArg},
		{"b yard - from 100001 1/25\n", 0, api.ErrArg},
		{"b yard - none 3 1/25\n", 0, api.ErrArg},
		{"b yard - each 0 2/4\n", 0, api.ErrForm},
		{"b yard - each 0 0/0\n", 0, api.ErrForm},
		{"b yard - each 0 1/0\n", 0, api.ErrForm},
		{"b yard - each 0 1/-2\n", 0, api.ErrForm},
		{"b yard - each 0 1/3\n", 0, api.ErrArg},
		{"b yard - each 0 10001/1\n", 0, api.ErrArg},
		{line + line, 0, api.ErrOrder},
		{line + "a yard - each 0 1/25\n", 0, api.ErrOrder},
		{strings.Repeat(line, api.MaxRules+1), 0, api.ErrLarge},
		{strings.Repeat(line, api.MaxRules+1) + "b", api.MaxRules + 1, api.ErrSyntax},
		{long, 0, api.ErrSyntax},
		{long + "x", 0, api.ErrLarge},
		{line + strings.Repeat("\n", api.MaxText-len(line)), 1, api.ErrSyntax},
	} {
		name := x.text[:min(len(x.text), 60)]
		r, number, e := Read(x.text)
		equal(t, name, e, x.want)
		equal(t, name+": line", number, x.number)
		if e != api.OK {
			list(t, name+": rules with an error", r, nil)
			continue
		}
		s, e := Text(r)
		equal(t, name+": written", e, api.OK)
		equal(t, name+": written", s, x.text)
	}
}

// P3.5 and Z10: the numbers of a line.
func TestReadNumbers(t *testing.T) {
	for _, word := range []string{"01", "00", "-0", "-01", "+1", "-", "1-", "1.0", "1e1", "0x1", "1_0", "a", "１", "1000000000000000", "-1000000000000000", "0000000000000001", strings.Repeat("9", 100)} {
		for _, line := range []string{"b yard - step " + word + " 1/2\n", "b yard - step 1 " + word + "/2\n", "b yard - step 1 1/" + word + "\n"} {
			_, number, e := Read(line)
			equal(t, line, e, api.ErrSyntax)
			equal(t, line, number, 0)
		}
	}
	// Numbers of 15 digits have their form, but none of them can be so great.
	for line, want := range map[string]api.Errno{
		"b yard - step 999999999999999 1/2\n":               api.ErrArg,
		"b yard - step -999999999999999 1/2\n":              api.ErrArg,
		"b yard - step 1 999999999999999/2\n":               api.ErrArg,
		"b yard - step 1 -999999999999999/2\n":              api.ErrArg,
		"b yard - step 1 1/999999999999999\n":               api.ErrArg,
		"b yard - step 1 1/-999999999999999\n":              api.ErrForm,
		"b yard - step 1 999999999999999/999999999999999\n": api.ErrForm,
	} {
		_, _, e := Read(line)
		equal(t, line, e, want)
	}
}

// P3.5: what Text writes, Read reads.
func TestTextPlainly(t *testing.T) {
	random := rand.New(rand.NewPCG(11, 12))
	for range 200 {
		var r []api.Rule
		for i := range random.IntN(6) {
			x := api.Rule{Key: key(i), Stat: key(random.IntN(9)), Kind: 1 + random.IntN(4), Worth: frac([]string{"1", "-1/100", "0", "99/50", "10000"}[random.IntN(5)])}
			if x.Kind == api.RuleStep || x.Kind == api.RuleFrom {
				x.Many = 1 + random.IntN(api.MaxCount)
			}
			if random.IntN(2) == 0 {
				x.Position = "gk"
			}
			r = append(r, x)
		}
		s, e := Text(r)
		equal(t, "Text", e, api.OK)
		back, number, e := Read(s)
		equal(t, "Read", e, api.OK)
		equal(t, "Read", number, 0)
		list(t, "Read", back, r)
	}
}
