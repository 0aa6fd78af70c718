package roster

import (
	"slices"
	"strconv"
	"strings"

	"benchwarmer/api"
	"benchwarmer/lines"
)

// Text writes a line for each move.
func Text(l []api.Move) (string, api.Errno) {
	if e := CheckMoves(l); e != api.OK {
		return "", e
	}
	return lines.Write(l, func(x api.Move) string {
		return strings.Join([]string{strconv.Itoa(x.At), kinds()[x.Kind-1], x.Team, x.Player}, " ")
	})
}

// Read reads moves.
func Read(text string) ([]api.Move, int, api.Errno) {
	return lines.Read(text, parse, CheckMoves)
}

func parse(line string) (api.Move, bool) {
	words, right := lines.Words(line)
	if !right || len(words) != 4 {
		return api.Move{}, false
	}
	at, isNumber := lines.Number(words[0], lines.MaxDigits)
	kind := slices.Index(kinds(), words[1]) + 1
	return api.Move{At: at, Kind: kind, Team: words[2], Player: words[3]}, isNumber && kind > 0
}

// kinds returns the words for the kinds of moves, that for 1 first.
func kinds() []string {
	return []string{"add", "drop", "stash", "back"}
}
