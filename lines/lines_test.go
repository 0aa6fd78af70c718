package lines

import (
	"slices"
	"strings"
	"testing"

	"benchwarmer/api"
)

func itself(line string) string { return line }

func notX(line string) (string, bool) { return line, line != "x" }

// noY finds what is wrong with all lines together.
func noY(l []string) api.Errno {
	if slices.Contains(l, "y") {
		return api.ErrRule
	}
	return api.OK
}

// Z9: a line ends at a line feed, which does not belong to it.
func TestRead(t *testing.T) {
	for _, x := range []struct {
		text   string
		want   []string
		number int
		e      api.Errno
	}{
		{"", nil, 0, api.OK},
		{"\n", []string{""}, 0, api.OK},
		{"a\nb\n", []string{"a", "b"}, 0, api.OK},
		{"a\r\n\n b \n", []string{"a\r", "", " b "}, 0, api.OK},
		{"a", nil, 0, api.ErrSyntax},
		{"a\nb", nil, 1, api.ErrSyntax},
		{"a\nx\nx\nb", nil, 1, api.ErrSyntax},
		{"a\nb\nx\n", nil, 2, api.ErrSyntax},
		{"a\nx", nil, 1, api.ErrSyntax},
		{"a\ny\n", nil, 0, api.ErrRule},
		{"y\nx\n", nil, 1, api.ErrSyntax},
		{"y\na", nil, 1, api.ErrSyntax},
		{"y\n" + strings.Repeat("a", api.MaxText-1), nil, 0, api.ErrLarge},
		{"x\n" + strings.Repeat("a", api.MaxText-2), nil, 0, api.ErrSyntax},
		{"x\n" + strings.Repeat("a", api.MaxText-1), nil, 0, api.ErrLarge},
	} {
		l, number, e := Read(x.text, notX, noY)
		if !slices.Equal(l, x.want) || number != x.number || e != x.e {
			t.Errorf("%.20q: got %q, %d, %d", x.text, l, number, e)
		}
	}
	if l, _, e := Read(strings.Repeat("\n", api.MaxText), notX, noY); len(l) != api.MaxText || e != api.OK {
		t.Errorf("got %d lines and %d of a text that just has its place", len(l), e)
	}
}

// Walk gives the lines in their order, and none behind the first one that is wrong.
func TestWalk(t *testing.T) {
	for _, x := range []struct {
		text   string
		taken  string
		number int
		e      api.Errno
	}{
		{"", "", 0, api.OK},
		{"a\n\nb c\n", "a,,b c,", 0, api.OK},
		{"a\nx\nb\n", "a,x,", 1, api.ErrSyntax},
		{"x\nx\n", "x,", 0, api.ErrSyntax},
		{"a\n" + strings.Repeat("b", api.MaxText-1), "", 0, api.ErrLarge},
	} {
		taken := ""
		number, e := Walk(x.text, func(line string) bool {
			taken += line + ","
			return line != "x"
		})
		if taken != x.taken || number != x.number || e != x.e {
			t.Errorf("%.20q: took %q, got %d, %d", x.text, taken, number, e)
		}
	}
	if number, e := Walk("a\nb", func(string) bool { return true }); number != 1 || e != api.ErrSyntax {
		t.Errorf("not ended: got %d, %d", number, e)
	}
}

func TestWrite(t *testing.T) {
	long := strings.Repeat("a", api.MaxText-3)
	for _, x := range []struct {
		l    []string
		want string
		e    api.Errno
	}{
		{nil, "", api.OK},
		{[]string{"a", "", "b"}, "a\n\nb\n", api.OK},
		{[]string{long, "b"}, long + "\nb\n", api.OK},
		{[]string{long, "bb"}, "", api.ErrLarge},
	} {
		if s, e := Write(x.l, itself); s != x.want || e != x.e {
			t.Errorf("%.20q: got %.20q, %d", x.l, s, e)
		}
	}
}

func TestWords(t *testing.T) {
	for line, want := range map[string][]string{
		"a": {"a"}, "a b": {"a", "b"}, "a\tb -1 é": {"a\tb", "-1", "é"}, "a\r": {"a\r"},
		"": nil, " ": nil, " a": nil, "a ": nil, "a  b": nil,
	} {
		words, right := Words(line)
		if !slices.Equal(words, want) || right != (want != nil) {
			t.Errorf("%q: got %q, %v", line, words, right)
		}
	}
}

// Z10: numbers are decimal digits, without a 0 before others, with - before them if they are below 0.
func TestNumber(t *testing.T) {
	for word, want := range map[string]int{"0": 0, "7": 7, "-7": -7, "10": 10, "-100": -100, "999": 999, "-999": -999} {
		if n, right := Number(word, 3); n != want || !right {
			t.Errorf("%q: got %d, %v", word, n, right)
		}
	}
	for _, word := range []string{"", "-", "-0", "00", "01", "-01", "+1", "+", "--1", "1-", " 1", "1 ", "1_0", "0x1", "1e1", "1.0", "a", "١", "1000", "-1000", "0000", strings.Repeat("9", 200_000)} {
		if n, right := Number(word, 3); n != 0 || right {
			t.Errorf("%.20q: got %d, %v", word, n, right)
		}
	}
	if n, right := Number("999999999999999", 15); n != 999_999_999_999_999 || !right {
		t.Errorf("got %d, %v for 15 digits", n, right)
	}
	if n, right := Number("99999999999999999999", 20); n != 0 || right {
		t.Errorf("got %d, %v for more than an int", n, right)
	}
}
