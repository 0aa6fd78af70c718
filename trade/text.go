package trade

import (
	"strconv"
	"strings"

	"benchwarmer/api"
	"benchwarmer/lines"
)

// Text writes offers.
func Text(m api.Market, l []api.Offer) (string, api.Errno) {
	if e := CheckOffers(m, l); e != api.OK {
		return "", e
	}
	return lines.Write(l, func(x api.Offer) string {
		all := []string{strings.Join([]string{"offer", x.Id, x.By, strconv.Itoa(x.Time.From), strconv.Itoa(x.Time.To)}, " ")}
		for _, g := range x.Gives {
			all = append(all, strings.Join([]string{"give", g.Player, g.From, g.To}, " "))
		}
		return strings.Join(all, "\n")
	})
}

// Read reads offers.
func Read(m api.Market, text string) ([]api.Offer, int, api.Errno) {
	if e := CheckMarket(m); e != api.OK {
		return nil, 0, e
	}
	var l []api.Offer
	number, e := lines.Walk(text, func(line string) bool {
		var right bool
		l, right = taken(l, line)
		return right
	})
	if e != api.OK {
		return nil, number, e
	}
	if e := CheckOffers(m, l); e != api.OK {
		return nil, 0, e
	}
	return l, 0, api.OK
}

// taken returns offers with what a line says: one more, or one more give of the last one; false if it has no such form.
func taken(l []api.Offer, line string) ([]api.Offer, bool) {
	words, right := lines.Words(line)
	switch {
	case right && words[0] == "offer" && len(words) == 5:
		from, first := lines.Number(words[3], lines.MaxDigits)
		to, second := lines.Number(words[4], lines.MaxDigits)
		return append(l, api.Offer{Id: words[1], By: words[2], Time: api.Window{From: from, To: to}}), first && second
	case right && words[0] == "give" && len(words) == 4 && len(l) > 0:
		last := &l[len(l)-1]
		last.Gives = append(last.Gives, api.Give{Player: words[1], From: words[2], To: words[3]})
		return l, true
	}
	return nil, false
}
