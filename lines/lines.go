// Package lines writes and reads texts that have a line for each element of a list.
package lines

import (
	"slices"
	"strconv"
	"strings"

	"benchwarmer/api"
)

// MaxDigits is how many digits a number in a line can have at most, in the texts of all chapters.
const MaxDigits = 15

// Write puts the lines of elements together; ErrLarge if they have more than MaxText bytes.
func Write[T any](l []T, line func(x T) string) (string, api.Errno) {
	var b strings.Builder
	for _, x := range l {
		b.WriteString(line(x))
		b.WriteByte('\n')
	}
	if b.Len() > api.MaxText {
		return "", api.ErrLarge
	}
	return b.String(), api.OK
}

// Read reads an element from each line; parse says whether a line has its form, wrong what is wrong with the elements then. With ErrSyntax it returns the number of the first line that is wrong, or not ended.
func Read[T any](text string, parse func(line string) (T, bool), wrong func(l []T) api.Errno) ([]T, int, api.Errno) {
	if len(text) > api.MaxText {
		return nil, 0, api.ErrLarge
	}
	var l []T
	for number := 0; text != ""; number++ {
		line, rest, ended := strings.Cut(text, "\n")
		x, right := parse(line)
		if !ended || !right {
			return nil, number, api.ErrSyntax
		}
		l = append(l, x)
		text = rest
	}
	if e := wrong(l); e != api.OK {
		return nil, 0, e
	}
	return l, 0, api.OK
}

// Words returns the words of a line, with single blanks between; false if one of them is empty.
func Words(line string) ([]string, bool) {
	words := strings.Split(line, " ")
	if slices.Contains(words, "") {
		return nil, false
	}
	return words, true
}

// Number reads a number of at most so many digits; false if the word is not what is written for it.
func Number(word string, digits int) (int, bool) {
	if len(strings.TrimPrefix(word, "-")) > digits {
		return 0, false
	}
	n, err := strconv.Atoi(word)
	if err != nil || strconv.Itoa(n) != word {
		return 0, false
	}
	return n, true
}
