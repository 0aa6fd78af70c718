package score

import (
	"slices"
	"strconv"
	"strings"

	"benchwarmer/api"
	"benchwarmer/fraction"
	"benchwarmer/lines"
)

// anywhere stands for the empty Position.
const anywhere = "-"

// Text writes a line for each rule.
func Text(r []api.Rule) (string, api.Errno) {
	if e := CheckRules(r); e != api.OK {
		return "", e
	}
	return lines.Write(r, func(x api.Rule) string {
		position := x.Position
		if position == "" {
			position = anywhere
		}
		words := []string{x.Key, x.Stat, position, kinds()[x.Kind-1], strconv.Itoa(x.Many), fraction.Write(x.Worth)}
		return strings.Join(words, " ")
	})
}

// Read reads rules.
func Read(text string) ([]api.Rule, int, api.Errno) {
	return lines.Read(text, parse, CheckRules)
}

func parse(line string) (api.Rule, bool) {
	words, right := lines.Words(line)
	if !right || len(words) != 6 {
		return api.Rule{}, false
	}
	position := words[2]
	if position == anywhere {
		position = ""
	}
	kind := slices.Index(kinds(), words[3]) + 1
	many, isNumber := lines.Number(words[4], lines.MaxDigits)
	worth, isFraction := fraction.Read(words[5], lines.MaxDigits)
	x := api.Rule{Key: words[0], Stat: words[1], Position: position, Kind: kind, Many: many, Worth: worth}
	return x, kind > 0 && isNumber && isFraction
}

// kinds returns the words for the kinds of rules, that for 1 first.
func kinds() []string {
	return []string{"each", "step", "from", "none"}
}
