// Package lines writes and reads texts, most of which have a line for each element of a list.
package lines

import (
	"slices"
	"strconv"
	"strings"

	"benchwarmer/api"
)

// MaxDigits is how many digits a number in a line can have at most, in the texts of all chapters.
const MaxDigits = 15

// Write puts the lines of elements together; ErrLarge if they have more than MaxText bytes.
func Write[T any](l []T, line func(x T) string) (string, api.Errno) {
	var b strings.Builder
	for _, x := range l {
		b.WriteString(line(x))
		b.WriteByte('\n')
	}
	if b.Len() > api.MaxText {
		return "", api.ErrLarge
	}
	return b.String(), api.OK
}

// Read reads an element from each line; parse says whether a line has its form, wrong what is wrong with the elements then. Its errors and the number of a line are those of Walk, then those of wrong.
func Read[T any](text string, parse func(line string) (T, bool), wrong func(l []T) api.Errno) ([]T, int, api.Errno) {
	var l []T
	number, e := Walk(text, func(line string) bool {
		x, right := parse(line)
		l = append(l, x)
		return right
	})
	if e != api.OK {
		return nil, number, e
	}
	if e := wrong(l); e != api.OK {
		return nil, 0, e
	}
	return l, 0, api.OK
}

// Walk gives each line to take, which says whether it has its form; ErrLarge if the text has more than MaxText bytes. With ErrSyntax it returns the number of the first line that is wrong, or not ended.
func Walk(text string, take func(line string) bool) (int, api.Errno) {
	if len(text) > api.MaxText {
		return 0, api.ErrLarge
	}
	for number := 0; text != ""; number++ {
		line, rest, ended := strings.Cut(text, "\n")
		if !take(line) || !ended {
			return number, api.ErrSyntax
		}
		text = rest
	}
	return 0, api.OK
}

// Words returns the words of a line, with single blanks between; false if one of them is empty.
func Words(line string) ([]string, bool) {
	words := strings.Split(line, " ")
	if slices.Contains(words, "") {
		return nil, false
	}
	return words, true
}

// Number reads a number of at most so many digits; false if the word is not what is written for it.
func Number(word string, digits int) (int, bool) {
	if len(strings.TrimPrefix(word, "-")) > digits {
		return 0, false
	}
	n, err := strconv.Atoi(word)
	if err != nil || strconv.Itoa(n) != word {
		return 0, false
	}
	return n, true
}
