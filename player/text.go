package player

import (
	"cmp"
	"slices"
	"strings"

	"benchwarmer/api"
	"benchwarmer/check"
	"benchwarmer/lines"
)

// Find returns the players whose Name has the words of a string.
func Find(p []api.Player, s string) ([]string, api.Errno) {
	e := cmp.Or(CheckPlayers(p), check.Unless(title(s), api.ErrForm))
	if e != api.OK {
		return nil, e
	}
	wanted := words(s)
	return those(p, func(x api.Player) bool { return fits(wanted, words(x.Name)) }), api.OK
}

// Text writes a line for each player.
func Text(p []api.Player) (string, api.Errno) {
	if e := CheckPlayers(p); e != api.OK {
		return "", e
	}
	return lines.Write(p, func(x api.Player) string {
		return x.Key + " " + strings.Join(x.Positions, ",") + " " + x.Name
	})
}

// Read reads players.
func Read(text string) ([]api.Player, int, api.Errno) {
	return lines.Read(text, parse, CheckPlayers)
}

func parse(line string) (api.Player, bool) {
	parts := strings.SplitN(line, " ", 3)
	if len(parts) < 3 || parts[0] == "" {
		return api.Player{}, false
	}
	positions := strings.Split(parts[1], ",")
	if slices.Contains(positions, "") {
		return api.Player{}, false
	}
	return api.Player{Key: parts[0], Name: parts[2], Positions: positions}, true
}

// words returns the words of a plain string, with A to Z as small letters. Other letters keep their case.
func words(s string) []string {
	small := strings.Map(func(r rune) rune {
		if 'A' <= r && r <= 'Z' {
			return r - 'A' + 'a'
		}
		return r
	}, s)
	return strings.Split(small, " ")
}

// fits says whether each wanted word is the beginning of a different one of a name.
//
// Two wanted words can only take the same word of the name if one of them is the beginning of the other one. So there is enough for all if for each wanted word the name has as many words with this beginning as the wanted ones that have it.
func fits(wanted, name []string) bool {
	return !slices.ContainsFunc(wanted, func(beginning string) bool {
		return begun(name, beginning) < begun(wanted, beginning)
	})
}

// begun returns how many words have a beginning.
func begun(words []string, beginning string) int {
	many := 0
	for _, word := range words {
		if strings.HasPrefix(word, beginning) {
			many++
		}
	}
	return many
}
