package trade

import (
	"math/rand/v2"
	"strings"
	"testing"

	"benchwarmer/api"
)

// P6.5: Text.
func TestText(t *testing.T) {
	for _, x := range []struct {
		l    []api.Offer
		want []string
	}{
		{nil, nil},
		{offers("o a 0 100 ann:a:b bob:b:a"), []string{"offer o a 0 100", "give ann a b", "give bob b a"}},
		{offers("o b 7 8 ann:a:b", "p a 0 345686400000 ann:a:b bob:b:c"), []string{"offer o b 7 8", "give ann a b", "offer p a 0 345686400000", "give ann a b", "give bob b c"}},
		{offers("give a 0 1 offer:a:b", "offer a 0 1 give:a:b"), []string{"offer give a 0 1", "give offer a b", "offer offer a 0 1", "give give a b"}},
		{offers("a-_0 d 1 2 b-_0:c:d", key(0)+" a 1 2 "+key(1)+":a:b"), []string{"offer a-_0 d 1 2", "give b-_0 c d", "offer " + key(0) + " a 1 2", "give " + key(1) + " a b"}},
	} {
		want := ""
		for _, line := range x.want {
			want += line + "\n"
		}
		s, e := Text(market(), x.l)
		equal(t, "Text", e, api.OK)
		equal(t, "Text", s, want)
		l, number, e := Read(market(), want)
		equal(t, want, e, api.OK)
		equal(t, want, number, 0)
		equal(t, want, shown(l), shown(x.l))
	}
}

// P6.5: errors of Text are those of CheckOffers.
func TestTextErrors(t *testing.T) {
	large := manyOffers(api.MaxOffers, api.MaxGives)
	large[api.MaxOffers-1].By = "x"
	for _, x := range []struct {
		name string
		m    api.Market
		l    []api.Offer
		want api.Errno
	}{
		{"market", api.Market{}, offers("O a 0 9"), api.ErrNone},
		{"Id", market(), offers("O a 0 9"), api.ErrName},
		{"time", market(), offers("o a 9 9"), api.ErrArg},
		{"By", market(), offers("o c 0 9 p:a:b"), api.ErrRule},
		{"order", market(), offers("o a 0 9 p:a:b", "o a 0 9 p:a:b"), api.ErrOrder},
		{"too many, whose text would be too long", widest(), manyOffers(api.MaxOffers+1, api.MaxGives), api.ErrLarge},
		{"wrong, and too long", widest(), large, api.ErrNone},
	} {
		s, e := Text(x.m, x.l)
		equal(t, x.name, e, x.want)
		equal(t, x.name, s, "")
	}
}

// offersOf makes offers whose text has so many bytes.
func offersOf(t *testing.T, bytes int) []api.Offer {
	t.Helper()
	all := manyOffers(api.MaxOffers, 7)
	many, size := 0, 0
	for ; size < bytes; many++ {
		s, e := Text(widest(), all[many:many+1])
		equal(t, "Text of one", e, api.OK)
		size += len(s)
	}
	// Shorter players make up for what is too much.
	for i, more := 0, size-bytes; more > 0; i++ {
		less := min(more, api.MaxName-1)
		all[i].Gives[0].Player = strings.Repeat("a", api.MaxName-less)
		more -= less
	}
	return all[:many]
}

// P6.5: the bound of Text.
func TestTextMost(t *testing.T) {
	for bytes, want := range map[int]api.Errno{api.MaxText - 1: api.OK, api.MaxText: api.OK, api.MaxText + 1: api.ErrLarge, 2 * api.MaxText: api.ErrLarge} {
		l := offersOf(t, bytes)
		equal(t, "offers", CheckOffers(widest(), l), api.OK)
		s, e := Text(widest(), l)
		equal(t, "Text", e, want)
		if want != api.OK {
			equal(t, "too much", s, "")
			continue
		}
		equal(t, "bytes", len(s), bytes)
		back, number, e := Read(widest(), s)
		equal(t, "Read", e, api.OK)
		equal(t, "line", number, 0)
		equal(t, "Read", shown(back), shown(l))
	}
}

// P6.5: texts that Read accepts, and how it errs with others.
func TestRead(t *testing.T) {
	head, give := "offer o a 3 9\n", "give p a b\n"
	good := head + give
	long := strings.Repeat("x", api.MaxText)
	for _, x := range []struct {
		text   string
		number int
		want   api.Errno
	}{
		{"", 0, api.OK},
		{good, 0, api.OK},
		{good + "give q b a\n", 0, api.OK},
		{good + "offer p b 0 1\n" + give, 0, api.OK},
		{give, 0, api.ErrSyntax},
		{give + good, 0, api.ErrSyntax},
		{"give p\n", 0, api.ErrSyntax},
		{"offer o a 3 9", 0, api.ErrSyntax},
		{head + "give p a b", 1, api.ErrSyntax},
		{good + "give q a b", 2, api.ErrSyntax},
		{"\n", 0, api.ErrSyntax},
		{good + "\n" + give, 2, api.ErrSyntax},
		{"offer o a 3\n" + give, 0, api.ErrSyntax},
		{"offer o a 3 9 9\n" + give, 0, api.ErrSyntax},
		{"offer a 3 9\n" + give, 0, api.ErrSyntax},
		{"o a 3 9 9\n" + give, 0, api.ErrSyntax},
		{"Offer o a 3 9\n" + give, 0, api.ErrSyntax},
		{"offers o a 3 9\n" + give, 0, api.ErrSyntax},
		{"give o a 3 9\n" + give, 0, api.ErrSyntax},
		{"offer o a 3 x\n" + give, 0, api.ErrSyntax},
		{"offer o a x 9\n" + give, 0, api.ErrSyntax},
		{"offer 3 9 o a\n" + give, 0, api.ErrSyntax},
		{head + "give p a\n", 1, api.ErrSyntax},
		{head + "give p a b c\n", 1, api.ErrSyntax},
		{head + "Give p a b\n", 1, api.ErrSyntax},
		{head + "gives p a b\n", 1, api.ErrSyntax},
		{head + "offer p a b\n", 1, api.ErrSyntax},
		{head + "p a b give\n", 1, api.ErrSyntax},
		{"offer o a 3 9 \n" + give, 0, api.ErrSyntax},
		{" offer o a 3 9\n" + give, 0, api.ErrSyntax},
		{"offer  o a 3 9\n" + give, 0, api.ErrSyntax},
		{"offer  a 3 9\n" + give, 0, api.ErrSyntax},
		{"offer o  3 9\n" + give, 0, api.ErrSyntax},
		{"offer o a  9\n" + give, 0, api.ErrSyntax},
		{"offer o a 3 \n" + give, 0, api.ErrSyntax},
		{head + "give  a b\n", 1, api.ErrSyntax},
		{head + "give p  b\n", 1, api.ErrSyntax},
		{head + "give p a \n", 1, api.ErrSyntax},
		{head + "give p a b \n", 1, api.ErrSyntax},
		{head + " give p a b\n", 1, api.ErrSyntax},
		{head + "give p\ta b\n", 1, api.ErrSyntax},
		{head + "give p a b\r\n", 0, api.ErrNone},
		{good + "give Q\n" + good, 2, api.ErrSyntax},
		{"offer O a 3 9\nx\n", 1, api.ErrSyntax},
		{"offer O a 3 9\n" + give, 0, api.ErrName},
		{"offer o e 3 9\n" + give, 0, api.ErrNone},
		{"offer o a -3 9\n" + give, 0, api.ErrArg},
		{"offer o a 9 9\n" + give, 0, api.ErrArg},
		{head, 0, api.ErrNone},
		{head + good, 0, api.ErrNone},
		{head + "give P a b\n", 0, api.ErrName},
		{head + "give p\xff a b\n", 0, api.ErrName},
		{head + "give p a a\n", 0, api.ErrRule},
		{good + give, 0, api.ErrOrder},
		{"offer o c 3 9\n" + give, 0, api.ErrRule},
		{good + good, 0, api.ErrOrder},
		{strings.Repeat(good, api.MaxOffers+1), 0, api.ErrLarge},
		{strings.Repeat(good, api.MaxOffers+1) + "b", 2*api.MaxOffers + 2, api.ErrSyntax},
		{head + strings.Repeat(give, api.MaxGives+1), 0, api.ErrLarge},
		{long, 0, api.ErrSyntax},
		{long + "x", 0, api.ErrLarge},
		{good + strings.Repeat("\n", api.MaxText-len(good)), 2, api.ErrSyntax},
		{good + strings.Repeat("\n", api.MaxText-len(good)+1), 0, api.ErrLarge},
	} {
		name := x.text[:min(len(x.text), 60)]
		l, number, e := Read(market(), x.text)
		equal(t, name, e, x.want)
		equal(t, name+": line", number, x.number)
		if e != api.OK {
			equal(t, name+": offers with an error", len(l), 0)
			continue
		}
		s, e := Text(market(), l)
		equal(t, name+": written", e, api.OK)
		equal(t, name+": written", s, x.text)
	}
	for _, text := range []string{good, long + "x", "x"} {
		_, number, e := Read(api.Market{}, text)
		equal(t, "market first", e, api.ErrNone)
		equal(t, "market first", number, 0)
	}
}

// P6.5 and Z10: the numbers of a line.
func TestReadNumbers(t *testing.T) {
	read := func(word string) (api.Errno, int) {
		t.Helper()
		_, number, e := Read(market(), "offer o a 0 9\ngive p a b\noffer p a "+word+" 9\ngive p a b\n")
		_, other, same := Read(market(), "offer o a 0 9\ngive p a b\noffer p a 0 "+word+"\ngive p a b\n")
		equal(t, word, same, e)
		equal(t, word, other, number)
		return e, number
	}
	for _, word := range []string{"01", "00", "-0", "-01", "+1", "-", "1-", "1.0", "1e1", "0x1", "1_0", "a", "１", "1000000000000000", "-1000000000000000", "0000000000000001", strings.Repeat("9", 100)} {
		e, number := read(word)
		equal(t, word, e, api.ErrSyntax)
		equal(t, word, number, 2)
	}
	// Numbers of 15 digits have their form, but no time is so great.
	for _, word := range []string{"999999999999999", "-999999999999999", "-1"} {
		e, number := read(word)
		equal(t, word, e, api.ErrArg)
		equal(t, word, number, 0)
	}
}

// P6.5: what Text writes of any offers, Read reads.
func TestTextPlainly(t *testing.T) {
	random := rand.New(rand.NewPCG(65, 1))
	for range 200 {
		m, o := anyMarket(random)
		l := anyOffers(random, o)
		s, e := Text(m, l)
		equal(t, "Text", e, api.OK)
		back, number, e := Read(m, s)
		equal(t, "Read", e, api.OK)
		equal(t, "Read", number, 0)
		equal(t, "Read", shown(back), shown(l))
	}
}
