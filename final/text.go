package final

import (
	"strconv"
	"strings"

	"benchwarmer/api"
	"benchwarmer/fraction"
	"benchwarmer/lines"
)

// Text writes a line for each honour.
func Text(h []api.Honour) (string, api.Errno) {
	if e := CheckHonours(h); e != api.OK {
		return "", e
	}
	return lines.Write(h, func(x api.Honour) string {
		return strings.Join([]string{strconv.Itoa(x.Season), strconv.Itoa(x.Place), x.Team, fraction.Write(x.Points)}, " ")
	})
}

// Read reads honours.
func Read(text string) ([]api.Honour, int, api.Errno) {
	return lines.Read(text, parse, CheckHonours)
}

func parse(line string) (api.Honour, bool) {
	words, right := lines.Words(line)
	if !right || len(words) != 4 {
		return api.Honour{}, false
	}
	season, first := lines.Number(words[0], lines.MaxDigits)
	place, second := lines.Number(words[1], lines.MaxDigits)
	points, third := fraction.Read(words[3], lines.MaxDigits)
	return api.Honour{Season: season, Place: place, Team: words[2], Points: points}, first && second && third
}
