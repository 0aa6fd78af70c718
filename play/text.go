package play

import (
	"strconv"
	"strings"

	"benchwarmer/api"
	"benchwarmer/lines"
)

// Text writes a line for each play.
func Text(l []api.Play) (string, api.Errno) {
	if e := CheckPlays(l); e != api.OK {
		return "", e
	}
	return lines.Write(l, func(x api.Play) string {
		words := []string{x.Source, strconv.Itoa(x.No), strconv.Itoa(x.At), strconv.Itoa(x.Week), x.Match, x.Player, x.Stat, strconv.Itoa(x.Count)}
		if x.Undo > 0 {
			words = append(words, strconv.Itoa(x.Undo))
		}
		return strings.Join(words, " ")
	})
}

// Read reads plays.
func Read(text string) ([]api.Play, int, api.Errno) {
	return lines.Read(text, parse, CheckPlays)
}

func parse(line string) (api.Play, bool) {
	words, right := lines.Words(line)
	if !right || len(words) != 8 && len(words) != 9 {
		return api.Play{}, false
	}
	number := func(place int) int {
		n, is := lines.Number(words[place], lines.MaxDigits)
		right = right && is
		return n
	}
	x := api.Play{Source: words[0], No: number(1), At: number(2), Week: number(3), Match: words[4], Player: words[5], Stat: words[6], Count: number(7)}
	if len(words) == 9 {
		x.Undo = number(8)
		right = right && x.Undo > 0
	}
	return x, right
}
