package value

import (
	"strconv"
	"strings"

	"benchwarmer/api"
	"benchwarmer/lines"
)

// maxDigits is how many digits a Value can have in a text.
const maxDigits = 7

// Text writes a line for each asset.
func Text(l []api.Asset) (string, api.Errno) {
	if e := CheckAssets(l); e != api.OK {
		return "", e
	}
	return lines.Write(l, func(x api.Asset) string {
		return strings.Join([]string{x.Player, x.Position, strconv.Itoa(x.Value)}, " ")
	})
}

// Read reads assets.
func Read(text string) ([]api.Asset, int, api.Errno) {
	return lines.Read(text, parse, CheckAssets)
}

func parse(line string) (api.Asset, bool) {
	words, right := lines.Words(line)
	if !right || len(words) != 3 {
		return api.Asset{}, false
	}
	value, isNumber := lines.Number(words[2], maxDigits)
	return api.Asset{Player: words[0], Position: words[1], Value: value}, isNumber
}
