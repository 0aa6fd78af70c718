package check

import (
	"math"
	"strings"
	"testing"

	"benchwarmer/api"
)

// says tests that a predicate is true of exactly one of two lists.
func says[T any](t *testing.T, name string, is func(T) bool, right, wrong []T) {
	t.Helper()
	for _, x := range right {
		if !is(x) {
			t.Errorf("%s(%#v) is false", name, x)
		}
	}
	for _, x := range wrong {
		if is(x) {
			t.Errorf("%s(%#v) is true", name, x)
		}
	}
}

// Z11: keys.
func TestKey(t *testing.T) {
	says(t, "Key", Key,
		[]string{"a", "z", "a0", "a9-_z", "a-", "a_", strings.Repeat("k", api.MaxName)},
		[]string{"", "A", "aB", "0a", "-a", "_a", "a b", " a", "a ", "a.", "a/", "a:", "a`", "a{", "aé", "é", "a\n", "a\x00", strings.Repeat("k", api.MaxName+1)})
}

// Z11: plain strings.
func TestPlain(t *testing.T) {
	says(t, "Plain", Plain,
		[]string{"", "a", "A b", "a b c", "Zoë Ñandú", "日本 語", "~!", "\u0080", "\u00a0", "\ufffd", "\U0010ffff"},
		[]string{" ", " a", "a ", "a  b", "a\tb", "a\n", "\x00", "\x1f", "\x7f", "a\x7fb", "\xff", "a\xc3", "\xc0\x80", "\xed\xa0\x80", "\xf4\x90\x80\x80", "\x80"})
}

// Z11: moments, and the weeks of the limits.
func TestNumbers(t *testing.T) {
	says(t, "Moment", Moment, []int{0, 1, api.End - 1}, []int{-1, api.End, math.MinInt, math.MaxInt})
	says(t, "Week", Week, []int{1, 2, api.MaxWeeks}, []int{0, -1, api.MaxWeeks + 1, math.MinInt, math.MaxInt})
	between := func(n int) bool { return Between(n, -2, 3) }
	says(t, "Between", between, []int{-2, 0, 3}, []int{-3, 4, math.MinInt, math.MaxInt})
}

// Z4: the elements in order, and for each one all its errors.
func TestEach(t *testing.T) {
	wrong := []api.Errno{api.OK, api.ErrKind, api.ErrArg}
	asked := 0
	e := Each(len(wrong), 3, func(i int) api.Errno { asked++; return wrong[i] })
	if e != api.ErrKind || asked != 2 {
		t.Errorf("got %d after %d elements", e, asked)
	}
	if e := Each(len(wrong), 2, func(i int) api.Errno { return wrong[i] }); e != api.ErrLarge {
		t.Errorf("got %d for too many", e)
	}
	if e := Each(0, 0, nil); e != api.OK {
		t.Errorf("got %d for none", e)
	}
	if Unless(true, api.ErrFull) != api.OK || Unless(false, api.ErrFull) != api.ErrFull {
		t.Error("Unless turns it round")
	}
}

func TestRising(t *testing.T) {
	for _, x := range []struct {
		keys string
		want api.Errno
	}{
		{"a", api.OK}, {"a b c", api.OK}, {"a- a0 a_", api.OK}, {"a- a_ aa", api.OK},
		{"a b c d", api.ErrLarge}, {"A A A A", api.ErrLarge},
		{"a a", api.ErrOrder}, {"b a", api.ErrOrder}, {"a A", api.ErrName}, {"b a A", api.ErrOrder}, {"A a a", api.ErrName},
	} {
		if e := Rising(strings.Split(x.keys, " "), 3); e != x.want {
			t.Errorf("%s: got %d, want %d", x.keys, e, x.want)
		}
	}
	if e := Rising(nil, 0); e != api.OK {
		t.Errorf("got %d for none", e)
	}
}

func TestDifferent(t *testing.T) {
	for _, x := range []struct {
		keys string
		want api.Errno
	}{
		{"a", api.OK}, {"c a b", api.OK}, {"a- a a_", api.OK},
		{"a b c d", api.ErrLarge}, {"A A A A", api.ErrLarge},
		{"a a", api.ErrTwice}, {"b a b", api.ErrTwice}, {"b A b", api.ErrName}, {"b b A", api.ErrTwice}, {"A A a", api.ErrName},
	} {
		if e := Different(strings.Split(x.keys, " "), 3); e != x.want {
			t.Errorf("%s: got %d, want %d", x.keys, e, x.want)
		}
	}
	if e := Different(nil, 0); e != api.OK {
		t.Errorf("got %d for none", e)
	}
}

// P1.1 and P3.3: positions of which there must be at least one.
func TestPositions(t *testing.T) {
	most := strings.Fields("a b c d e f g h i j")
	for _, x := range []struct {
		l    []string
		want api.Errno
	}{
		{nil, api.ErrNone}, {[]string{}, api.ErrNone}, {most[:1], api.OK}, {most, api.OK},
		{append(most, "k"), api.ErrLarge}, {make([]string, api.MaxPositions+1), api.ErrLarge},
		{[]string{""}, api.ErrName}, {[]string{"b", "A"}, api.ErrName}, {[]string{"b", "b"}, api.ErrOrder}, {[]string{"b", "a", "A"}, api.ErrOrder},
	} {
		if e := Positions(x.l); e != x.want {
			t.Errorf("%v: got %d, want %d", x.l, e, x.want)
		}
	}
}
