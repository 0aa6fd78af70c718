package play

import (
	"strings"
	"testing"

	"benchwarmer/api"
)

// P2.4: Text.
func TestText(t *testing.T) {
	for _, lines := range [][]string{
		nil,
		{"fa 1 10 1 ma ann goal 1"},
		{"f- 1 0 60 m_ a-n g0 0", "fa 2 345686399999 1 ma ann goal -100000", "fa 3 2 1 ma ann goal 0 1", "fa 3000 30 1 ma ann goal 0 2999", "fb 2 3 1 ma bea pass 100000"},
	} {
		want := ""
		for _, line := range lines {
			want += line + "\n"
		}
		s, e := Text(plays(lines...))
		equal(t, "Text", e, api.OK)
		equal(t, "Text", s, want)
	}
	s, e := Text(plays("fb 1 1 1 ma ann goal 1", "fa 1 1 1 ma ann goal 1"))
	equal(t, "plays first", e, api.ErrOrder)
	equal(t, "plays first", s, "")
}

// longPlays makes plays whose Text has so many bytes.
func longPlays(bytes int) []api.Play {
	var l []api.Play
	for bytes > 0 {
		// With a Player of one byte, a line has 40 + 4 + 1 + 1 + 40 + 1 + 40 + 1 bytes, 7 blanks and the line feed.
		size := 136
		longer := min(bytes-size, api.MaxName-1)
		if left := bytes - size - longer; left > 0 && left < size {
			longer -= size
		}
		l = append(l, api.Play{Source: key(0), No: 1000 + len(l), Week: 1, Match: key(0), Player: strings.Repeat("a", 1+max(longer, 0)), Stat: key(0)})
		bytes -= size + max(longer, 0)
	}
	return l
}

// P2.4: the bound of Text.
func TestTextMost(t *testing.T) {
	for bytes, want := range map[int]api.Errno{api.MaxText - 1: api.OK, api.MaxText: api.OK, api.MaxText + 1: api.ErrLarge} {
		l := longPlays(bytes)
		equal(t, "plays", CheckPlays(l), api.OK)
		s, e := Text(l)
		equal(t, "Text", e, want)
		if want != api.OK {
			equal(t, "too much", s, "")
			continue
		}
		equal(t, "bytes", len(s), bytes)
		back, number, e := Read(s)
		equal(t, "Read", e, api.OK)
		equal(t, "line", number, 0)
		list(t, "Read", back, l)
	}
}

// P2.4: texts that Read accepts, and how it errs with others.
func TestRead(t *testing.T) {
	line := "fa 2 20 1 ma ann goal 1\n"
	long := strings.Repeat("x", api.MaxText)
	for _, x := range []struct {
		text   string
		number int
		want   api.Errno
	}{
		{"", 0, api.OK},
		{line, 0, api.OK},
		{line + "fa 3 30 1 ma ann goal 0 2\n", 0, api.OK},
		{"fa 3 30 1 ma ann goal 0 1\n", 0, api.OK},
		{"fa 2 20 1 ma ann goal -1\n", 0, api.OK},
		{"fa 2 20 1 ma ann goal 1", 0, api.ErrSyntax},
		{line + "fa 3 30 1 ma ann goal 0 2", 1, api.ErrSyntax},
		{"\n", 0, api.ErrSyntax},
		{line + "\n" + line, 1, api.ErrSyntax},
		{"fa 2 20 1 ma ann goal\n", 0, api.ErrSyntax},
		{"fa 2 20 1 ma ann goal 0 1 1\n", 0, api.ErrSyntax},
		{" fa 2 20 1 ma ann goal 1\n", 0, api.ErrSyntax},
		{"fa 2 20 1 ma ann goal 1 \n", 0, api.ErrSyntax},
		{"fa  2 20 1 ma ann goal 1\n", 0, api.ErrSyntax},
		{"fa 2 20 1  ann goal 1\n", 0, api.ErrSyntax},
		{" 2 20 1 ma ann goal 1\n", 0, api.ErrSyntax},
		{"fa\t2 20 1 ma ann goal 1\n", 0, api.ErrSyntax},
		{"fa 2 20 1 ma ann goal 1\r\n", 0, api.ErrSyntax},
		{"fa 2 20 1 ma ann goal 0 0\n", 0, api.ErrSyntax},
		{"fa 2 20 1 ma ann goal 0 -1\n", 0, api.ErrSyntax},
		{"fa 2 20 1 ma ann goal 0 a\n", 0, api.ErrSyntax},
		{line + "FA 2\n", 1, api.ErrSyntax},
		{"FA 2 20 1 ma ann goal 1\nfa\n", 1, api.ErrSyntax},
		{"FA 2 20 1 ma ann goal 1\n", 0, api.ErrName},
		{"fa 2 20 1 m\ta ann goal 1\n", 0, api.ErrName},
		{"fa 2 20 1 ma Ann goal 1\n", 0, api.ErrName},
		{"fa 2 20 1 ma ann \xff 1\n", 0, api.ErrName},
		{"fa 0 20 1 ma ann goal 1\n", 0, api.ErrArg},
		{"fa -2 20 1 ma ann goal 1\n", 0, api.ErrArg},
		{"fa 2 -20 1 ma ann goal 1\n", 0, api.ErrArg},
		{"fa 2 20 61 ma ann goal 1\n", 0, api.ErrArg},
		{"fa 2 20 1 ma ann goal 100001\n", 0, api.ErrArg},
		{"fa 2 20 1 ma ann goal 0 2\n", 0, api.ErrArg},
		{"fa 2 20 1 ma ann goal 1 1\n", 0, api.ErrForm},
		{line + line, 0, api.ErrOrder},
		{line + "fa 3 20 2 ma ann goal 1\n", 0, api.ErrConflict},
		{strings.Repeat(line, api.MaxPlays+1), 0, api.ErrLarge},
		{strings.Repeat(line, api.MaxPlays+1) + "fa", api.MaxPlays + 1, api.ErrSyntax},
		{long, 0, api.ErrSyntax},
		{long + "x", 0, api.ErrLarge},
		{line + strings.Repeat("\n", api.MaxText-len(line)), 1, api.ErrSyntax},
	} {
		name := x.text[:min(len(x.text), 60)]
		l, number, e := Read(x.text)
		equal(t, name, e, x.want)
		equal(t, name+": line", number, x.number)
		if e != api.OK {
			equal(t, name+": plays with an error", len(l), 0)
			continue
		}
		s, e := Text(l)
		equal(t, name+": written", e, api.OK)
		equal(t, name+": written", s, x.text)
	}
}

// P2.4 and Z10: the numbers of a line.
func TestReadNumbers(t *testing.T) {
	fields := strings.Fields("fa 2 20 1 ma ann goal 0 1")
	for place, field := range fields {
		if strings.Trim(field, "0123456789") != "" {
			continue
		}
		for _, word := range []string{"01", "00", "-0", "-01", "+1", "-", "1-", "1.0", "1e1", "0x1", "1_0", "a", "１", "1000000000000000", "-1000000000000000", "0000000000000001", strings.Repeat("9", 100)} {
			changed := append([]string{}, fields...)
			changed[place] = word
			_, number, e := Read(strings.Join(changed, " ") + "\n")
			equal(t, strings.Join(changed, " "), e, api.ErrSyntax)
			equal(t, strings.Join(changed, " ")+": line", number, 0)
		}
		// A number of 15 digits has its form, but none of them can be so great.
		changed := append([]string{}, fields...)
		changed[place] = "999999999999999"
		_, _, e := Read(strings.Join(changed, " ") + "\n")
		equal(t, strings.Join(changed, " "), e, api.ErrArg)
		changed[place] = "-999999999999999"
		want := api.ErrArg
		if place == 8 {
			want = api.ErrSyntax
		}
		_, _, e = Read(strings.Join(changed, " ") + "\n")
		equal(t, strings.Join(changed, " "), e, want)
	}
}
