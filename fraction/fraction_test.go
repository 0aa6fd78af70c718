package fraction

import (
	"math"
	"strings"
	"testing"

	"benchwarmer/api"
)

func TestOf(t *testing.T) {
	for _, x := range []struct {
		num, den int
		want     api.Fraction
	}{
		{0, 1, api.Fraction{Num: 0, Den: 1}},
		{0, 100, api.Fraction{Num: 0, Den: 1}},
		{100, 100, api.Fraction{Num: 1, Den: 1}},
		{740, 100, api.Fraction{Num: 37, Den: 5}},
		{-250, 100, api.Fraction{Num: -5, Den: 2}},
		{-1, 3, api.Fraction{Num: -1, Den: 3}},
		{7, 100, api.Fraction{Num: 7, Den: 100}},
		{math.MaxInt, math.MaxInt, api.Fraction{Num: 1, Den: 1}},
		{math.MinInt, 2, api.Fraction{Num: math.MinInt / 2, Den: 1}},
		{math.MinInt, math.MaxInt, api.Fraction{Num: math.MinInt, Den: math.MaxInt}},
	} {
		if got := Of(x.num, x.den); got != x.want {
			t.Errorf("%d over %d: got %v, want %v", x.num, x.den, got, x.want)
		}
	}
}

// Hundredths and OfHundredths are partners.
func TestHundredths(t *testing.T) {
	for many := -1_000; many <= 1_000; many++ {
		x := OfHundredths(many)
		if e := Wrong(x, 10); e != api.OK {
			t.Errorf("%d hundredths: %v has the error %d", many, x, e)
		}
		if got := Hundredths(x); got != many {
			t.Errorf("%d hundredths: %v is %d", many, x, got)
		}
	}
}

func TestWrong(t *testing.T) {
	for _, x := range []struct {
		num, den int
		want     api.Errno
	}{
		{0, 1, api.OK}, {1, 1, api.OK}, {-1, 2, api.OK}, {3, 4, api.OK}, {7, 100, api.OK}, {-999, 100, api.OK},
		{10, 1, api.OK}, {-10, 1, api.OK}, {39, 4, api.OK}, {11, 1, api.ErrArg}, {-11, 1, api.ErrArg}, {41, 4, api.ErrArg}, {-1001, 100, api.ErrArg},
		{1, 5, api.OK}, {1, 10, api.OK}, {1, 20, api.OK}, {1, 25, api.OK}, {1, 50, api.OK},
		{1, 3, api.ErrArg}, {1, 8, api.ErrArg}, {1, 101, api.ErrArg}, {1, 200, api.ErrArg}, {1, 1_000, api.ErrArg},
		{0, 0, api.ErrForm}, {1, 0, api.ErrForm}, {0, 2, api.ErrForm}, {0, -1, api.ErrForm}, {1, -1, api.ErrForm}, {-1, -2, api.ErrForm},
		{2, 2, api.ErrForm}, {2, 4, api.ErrForm}, {-2, 4, api.ErrForm}, {200, 6, api.ErrForm}, {10, 100, api.ErrForm},
		{math.MinInt, 1, api.ErrArg}, {math.MaxInt, 1, api.ErrArg}, {1, math.MaxInt, api.ErrArg}, {-1, math.MaxInt, api.ErrArg},
		{math.MinInt, 2, api.ErrForm}, {math.MinInt, math.MaxInt, api.ErrArg}, {math.MaxInt, math.MaxInt, api.ErrForm},
		{math.MinInt, math.MinInt, api.ErrForm}, {1, math.MinInt, api.ErrForm}, {math.MinInt, -1, api.ErrForm}, {math.MinInt, 0, api.ErrForm},
	} {
		if got := Wrong(api.Fraction{Num: x.num, Den: x.den}, 10); got != x.want {
			t.Errorf("%d over %d: got %d, want %d", x.num, x.den, got, x.want)
		}
	}
}

// Z10: what is written is read, and nothing else is.
func TestText(t *testing.T) {
	for word, want := range map[string]api.Fraction{
		"0/1": {Num: 0, Den: 1}, "37/5": {Num: 37, Den: 5}, "-5/2": {Num: -5, Den: 2}, "-999/100": {Num: -999, Den: 100},
		"2/4": {Num: 2, Den: 4}, "1/0": {Num: 1, Den: 0}, "1/-2": {Num: 1, Den: -2}, "0/0": {},
	} {
		got, right := Read(word, 3)
		if got != want || !right {
			t.Errorf("%q: got %v, %v", word, got, right)
		}
		if s := Write(want); s != word {
			t.Errorf("%v: got %q, want %q", want, s, word)
		}
	}
	for _, word := range []string{"", "/", "1", "1/", "/1", "1/2/3", "1//2", "1.5", "1.5/2", "01/2", "1/02", "-0/1", "1/-0", "+1/2", "1/+2", " 1/2", "1 /2", "1/2 ", "1\\2", "a/b", "1000/1", "1/1000", "-1000/1", strings.Repeat("1", 100_000) + "/1"} {
		if got, right := Read(word, 3); got != (api.Fraction{}) || right {
			t.Errorf("%.20q: got %v, %v", word, got, right)
		}
	}
	if got, right := Read("999999999999999/999999999999999", 15); got != (api.Fraction{Num: 999_999_999_999_999, Den: 999_999_999_999_999}) || !right {
		t.Errorf("got %v, %v for 15 digits", got, right)
	}
}
