// Package check has the checks that the chapters share: of numbers, names and lists.
package check

import (
	"cmp"
	"slices"
	"strings"
	"unicode/utf8"

	"benchwarmer/api"
)

// Unless returns an error if something is not right.
func Unless(right bool, wrong api.Errno) api.Errno {
	if right {
		return api.OK
	}
	return wrong
}

// Each asks for the error of each element in order, by its number, and returns the first one; ErrLarge if there are more elements than most.
func Each(many, most int, wrong func(i int) api.Errno) api.Errno {
	if many > most {
		return api.ErrLarge
	}
	for i := range many {
		if e := wrong(i); e != api.OK {
			return e
		}
	}
	return api.OK
}

// Rising returns what is wrong with a list of at most so many keys, each one greater than the one before.
func Rising(keys []string, most int) api.Errno {
	return Each(len(keys), most, func(i int) api.Errno {
		return cmp.Or(
			Unless(Key(keys[i]), api.ErrName),
			Unless(i == 0 || keys[i-1] < keys[i], api.ErrOrder))
	})
}

// Different returns what is wrong with a list of at most so many keys, each one there once.
func Different(keys []string, most int) api.Errno {
	return Each(len(keys), most, func(i int) api.Errno {
		return cmp.Or(
			Unless(Key(keys[i]), api.ErrName),
			Unless(!slices.Contains(keys[:i], keys[i]), api.ErrTwice))
	})
}

// Positions returns what is wrong with the positions of somebody, or of something, that has at least one.
func Positions(l []string) api.Errno {
	return cmp.Or(
		Unless(len(l) > 0, api.ErrNone),
		Rising(l, api.MaxPositions))
}

// Between says whether a number is from low to high, both among them.
func Between(n, low, high int) bool {
	return low <= n && n <= high
}

// Week says whether a number is that of a week.
func Week(n int) bool {
	return Between(n, 1, api.MaxWeeks)
}

// Moment says whether a number is a moment.
func Moment(n int) bool {
	return Between(n, 0, api.End-1)
}

// Key says whether a string is a key.
func Key(s string) bool {
	if s == "" || len(s) > api.MaxName || !small(s[0]) {
		return false
	}
	for i := range len(s) {
		if !small(s[i]) && !digit(s[i]) && s[i] != '-' && s[i] != '_' {
			return false
		}
	}
	return true
}

// Plain says whether a string is plain.
func Plain(s string) bool {
	if strings.HasPrefix(s, " ") || strings.HasSuffix(s, " ") || strings.Contains(s, "  ") {
		return false
	}
	for i := range len(s) {
		if s[i] < 32 || s[i] == 127 {
			return false
		}
	}
	return utf8.ValidString(s)
}

func small(c byte) bool {
	return 'a' <= c && c <= 'z'
}

func digit(c byte) bool {
	return '0' <= c && c <= '9'
}
