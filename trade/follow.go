package trade

import (
	"cmp"
	"slices"

	"benchwarmer/api"
	"benchwarmer/check"
)

// Stages returns how offers stand at a moment.
func Stages(m api.Market, o []api.Owner, l []api.Offer, a []api.Answer, moment int) ([]api.Stage, api.Errno) {
	h, e := follow(m, o, l, a, api.OK, moment)
	if e != api.OK {
		return nil, e
	}
	var stages []api.Stage
	for _, c := range h.courses {
		if c.how != 0 {
			stages = append(stages, api.Stage{Offer: c.offer.Id, How: c.how, Since: c.since})
		}
	}
	return stages, api.OK
}

// Owners returns who has whom at a moment.
func Owners(m api.Market, o []api.Owner, l []api.Offer, a []api.Answer, moment int) ([]api.Owner, api.Errno) {
	h, e := follow(m, o, l, a, api.OK, moment)
	if e != api.OK {
		return nil, e
	}
	return h.list(), api.OK
}

// Waits returns the open offers which a team could still say yes to.
func Waits(m api.Market, o []api.Owner, l []api.Offer, a []api.Answer, team string, moment int) ([]string, api.Errno) {
	h, e := follow(m, o, l, a, wrongTeam(m, team), moment)
	if e != api.OK {
		return nil, e
	}
	var ids []string
	for _, c := range h.courses {
		if c.how == api.OfferOpen && slices.Contains(c.teams, team) && !c.yes[team] {
			ids = append(ids, c.offer.Id)
		}
	}
	return ids, api.OK
}

// Way returns the teams that have had a player; one who came back to a team has it twice.
func Way(m api.Market, l []api.Offer, player string, o []api.Owner, a []api.Answer, moment int) ([]string, api.Errno) {
	first := slices.IndexFunc(o, func(x api.Owner) bool { return x.Player == player })
	h, e := follow(m, o, l, a, check.Unless(first >= 0, api.ErrNone), moment)
	if e != api.OK {
		return nil, e
	}
	way := []string{o[first].Team}
	for _, g := range h.done {
		if g.Player == player {
			way = append(way, g.To)
		}
	}
	return way, api.OK
}

// course is how an offer stands, and what was said to it.
type course struct {
	offer       api.Offer
	teams       []string // those that are concerned
	how, since  int      // how is 0 as long as the offer is not there
	yes, vetoes map[string]bool
}

// become says that the offer stands otherwise from a moment on.
func (c *course) become(how, moment int) {
	c.how, c.since = how, moment
}

// history is what has become of offers.
type history struct {
	holding
	courses []*course // by Id
	ids     map[string]*course
	done    []api.Give // in the order in which they were done
}

// begin returns the history before the first moment.
func begin(m api.Market, o []api.Owner, l []api.Offer) *history {
	h := &history{holding: holdingOf(m, o), ids: map[string]*course{}}
	for _, x := range l {
		c := &course{offer: x, teams: concerned(x), yes: map[string]bool{x.By: true}, vetoes: map[string]bool{}}
		h.courses = append(h.courses, c)
		h.ids[x.Id] = c
	}
	return h
}

// follow returns the history up to a moment, or what is wrong; wrong is what is wrong with those who are asked for.
func follow(m api.Market, o []api.Owner, l []api.Offer, a []api.Answer, wrong api.Errno, moment int) (*history, api.Errno) {
	e := cmp.Or(
		CheckOwners(m, o),
		CheckOffers(m, l),
		CheckAnswers(m, a),
		wrong,
		check.Unless(check.Moment(moment), api.ErrArg))
	if e != api.OK {
		return nil, e
	}
	h := begin(m, o, l)
	for _, now := range moments(m, l, a) {
		if now > moment {
			break
		}
		h.open(now)
		for ; len(a) > 0 && a[0].At == now; a = a[1:] {
			h.hear(a[0])
		}
		h.pass(now)
	}
	return h, api.OK
}

// moments returns when something can happen. A wait begins with an answer, so each one ends Wait behind an answer; where none ends, nothing happens.
func moments(m api.Market, l []api.Offer, a []api.Answer) []int {
	all := []int{m.Deadline}
	for _, x := range l {
		all = append(all, x.Time.From, x.Time.To)
	}
	for _, x := range a {
		all = append(all, x.At, x.At+m.Wait)
	}
	slices.Sort(all)
	return slices.Compact(all)
}

// open opens the offers that begin at a moment.
func (h *history) open(now int) {
	for _, c := range h.courses {
		if c.offer.Time.From == now {
			c.become(api.OfferOpen, now)
		}
	}
}

// hear takes an answer, which is nothing where no case is for it.
func (h *history) hear(x api.Answer) {
	c := h.ids[x.Offer]
	if c == nil || c.how != api.OfferOpen && c.how != api.OfferWaits {
		return
	}
	own := slices.Contains(c.teams, x.Team)
	switch {
	case x.Kind == api.AnswerYes && own && c.how == api.OfferOpen:
		c.yes[x.Team] = true
		if len(c.yes) == len(c.teams) {
			c.become(api.OfferWaits, x.At)
		}
	case x.Kind == api.AnswerNo && own:
		c.become(api.OfferRefused, x.At)
	case x.Kind == api.AnswerBack && x.Team == c.offer.By:
		c.become(api.OfferBack, x.At)
	case x.Kind == api.AnswerVeto && !own && c.how == api.OfferWaits:
		c.vetoes[x.Team] = true
		if len(c.vetoes) == h.market.Vetoes {
			c.become(api.OfferStopped, x.At)
		}
	}
}

// pass does what time brings at a moment.
func (h *history) pass(now int) {
	for _, c := range h.courses {
		switch c.how {
		case api.OfferWaits:
			if now-c.since >= h.market.Wait {
				c.become(h.end(c.offer, now), now)
			}
		case api.OfferOpen:
			if now >= c.offer.Time.To || now >= h.market.Deadline {
				c.become(api.OfferLate, now)
			}
		}
	}
}

// end does an offer whose wait is over, if this is possible, and returns how it stands then.
func (h *history) end(x api.Offer, now int) int {
	if now >= h.market.Deadline {
		return api.OfferLate
	}
	if !h.can(x) {
		return api.OfferBroken
	}
	h.do(x)
	h.done = append(h.done, x.Gives...)
	return api.OfferDone
}
