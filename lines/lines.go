// Package lines writes and reads texts that have a line for each element of a list.
package lines

import (
	"strings"

	"benchwarmer/api"
)

// Write puts the lines of elements together; ErrLarge if they have more than MaxText bytes.
func Write[T any](l []T, line func(x T) string) (string, api.Errno) {
	var b strings.Builder
	for _, x := range l {
		b.WriteString(line(x))
		b.WriteByte('\n')
	}
	if b.Len() > api.MaxText {
		return "", api.ErrLarge
	}
	return b.String(), api.OK
}

// Read reads an element from each line; parse says whether a line has its form. With ErrSyntax it returns the number of the first line that is wrong, or not ended.
func Read[T any](text string, parse func(line string) (T, bool)) ([]T, int, api.Errno) {
	if len(text) > api.MaxText {
		return nil, 0, api.ErrLarge
	}
	var l []T
	for number := 0; text != ""; number++ {
		line, rest, ended := strings.Cut(text, "\n")
		x, right := parse(line)
		if !ended || !right {
			return nil, number, api.ErrSyntax
		}
		l = append(l, x)
		text = rest
	}
	return l, 0, api.OK
}
