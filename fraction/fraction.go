// Package fraction has what the chapters do with fractions: lowest terms, hundredths, checks and texts.
package fraction

import (
	"strconv"
	"strings"

	"benchwarmer/api"
	"benchwarmer/check"
	"benchwarmer/lines"
)

// whole is what the Den of points divides.
const whole = 100

// Of returns a quotient in lowest terms; den is above 0.
func Of(num, den int) api.Fraction {
	common := divisor(num, den)
	return api.Fraction{Num: num / common, Den: den / common}
}

// OfHundredths returns so many hundredths in lowest terms.
func OfHundredths(many int) api.Fraction {
	return Of(many, whole)
}

// Hundredths returns how many hundredths points are, in which nothing is wrong.
func Hundredths(x api.Fraction) int {
	return x.Num * (whole / x.Den)
}

// Wrong says what is wrong with points: ErrForm if they are not in lowest terms with Den above 0; ErrArg if they are not from -most to most, or Den does not divide 100.
func Wrong(x api.Fraction, most int) api.Errno {
	if x.Den <= 0 || divisor(x.Num, x.Den) != 1 {
		return api.ErrForm
	}
	// Only of a Den that is small enough the product can't overflow.
	if whole%x.Den != 0 || !check.Between(x.Num, -most*x.Den, most*x.Den) {
		return api.ErrArg
	}
	return api.OK
}

// Write writes a fraction as NUM/DEN.
func Write(x api.Fraction) string {
	return strconv.Itoa(x.Num) + "/" + strconv.Itoa(x.Den)
}

// Read reads NUM/DEN, numbers of at most so many digits; false if the word has not this form. It does not ask for lowest terms.
func Read(word string, digits int) (api.Fraction, bool) {
	before, behind, _ := strings.Cut(word, "/")
	num, first := lines.Number(before, digits)
	den, second := lines.Number(behind, digits)
	if !first || !second {
		return api.Fraction{}, false
	}
	return api.Fraction{Num: num, Den: den}, true
}

// divisor returns the greatest common divisor of a number and one above 0.
func divisor(n, above int) int {
	for n != 0 {
		n, above = above%n, n
	}
	return max(above, -above)
}
