package match

import (
	"slices"
	"strconv"
	"strings"

	"benchwarmer/api"
	"benchwarmer/fraction"
	"benchwarmer/lines"
)

// Text writes a line for each game.
func Text(g []api.Game) (string, api.Errno) {
	if e := wrongAlone(g); e != api.OK {
		return "", e
	}
	return lines.Write(g, func(x api.Game) string {
		words := []string{strconv.Itoa(x.Week), x.Home, x.Away}
		if x.Played {
			words = append(words, fraction.Write(x.For), fraction.Write(x.Other))
		}
		return strings.Join(words, " ")
	})
}

// Read reads games.
func Read(text string) ([]api.Game, int, api.Errno) {
	return lines.Read(text, parse, wrongAlone)
}

// wrongAlone says what is wrong with games of the teams that they name.
func wrongAlone(g []api.Game) api.Errno {
	if len(g) == 0 {
		return api.OK
	}
	var teams []string
	for _, x := range g {
		teams = append(teams, x.Home, x.Away)
	}
	slices.Sort(teams)
	return CheckGames(slices.Compact(teams), g)
}

func parse(line string) (api.Game, bool) {
	words, right := lines.Words(line)
	if !right || len(words) != 3 && len(words) != 5 {
		return api.Game{}, false
	}
	week, isNumber := lines.Number(words[0], lines.MaxDigits)
	x := api.Game{Week: week, Home: words[1], Away: words[2]}
	if len(words) == 3 {
		return x, isNumber
	}
	home, first := fraction.Read(words[3], lines.MaxDigits)
	away, second := fraction.Read(words[4], lines.MaxDigits)
	x.Played, x.For, x.Other = true, home, away
	return x, isNumber && first && second
}
