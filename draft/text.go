package draft

import (
	"cmp"
	"strconv"
	"strings"

	"benchwarmer/api"
	"benchwarmer/check"
	"benchwarmer/lines"
)

// auto is the word behind a pick by the list of wishes.
const auto = "auto"

// Text writes a line for each pick.
func Text(l []api.Pick) (string, api.Errno) {
	if e := wrongPicks(l); e != api.OK {
		return "", e
	}
	return lines.Write(l, func(x api.Pick) string {
		words := []string{strconv.Itoa(x.No), x.Team, x.Player, strconv.Itoa(x.At)}
		if x.Auto {
			words = append(words, auto)
		}
		return strings.Join(words, " ")
	})
}

// Read reads picks.
func Read(text string) ([]api.Pick, int, api.Errno) {
	return lines.Read(text, parse, wrongPicks)
}

// wrongPicks says what is wrong with picks of which the room is not known.
func wrongPicks(l []api.Pick) api.Errno {
	return check.Each(len(l), api.MaxPicks, func(i int) api.Errno {
		x := l[i]
		return cmp.Or(
			check.Unless(check.Between(x.No, 0, api.MaxPicks), api.ErrArg),
			check.Unless(check.Key(x.Team) && check.Key(x.Player), api.ErrName),
			check.Unless(check.Moment(x.At), api.ErrArg))
	})
}

func parse(line string) (api.Pick, bool) {
	words, right := lines.Words(line)
	if !right || len(words) != 4 && len(words) != 5 {
		return api.Pick{}, false
	}
	no, first := lines.Number(words[0], lines.MaxDigits)
	at, second := lines.Number(words[3], lines.MaxDigits)
	x := api.Pick{No: no, Team: words[1], Player: words[2], At: at, Auto: len(words) == 5}
	return x, first && second && (!x.Auto || words[4] == auto)
}
