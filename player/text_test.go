package player

import (
	"slices"
	"strings"
	"testing"

	"benchwarmer/api"
)

// P1.5: Find.
func TestFind(t *testing.T) {
	p := people("ann gk Mary Jo Smith", "bob df Max Martin", "cat st O'Neil-Smith Élan ZOË", "dan st Martin")
	for s, want := range map[string]string{
		"jo sm": "ann", "m m": "bob", "ma m": "bob", "m ma": "bob", "ma": "ann bob dan", "MARY": "ann", "ary": "", "a": "",
		"smith jo mary": "ann", "smith jo mary x": "", "mary mary": "", "martin ma": "bob", "martin max m": "",
		"o'n": "cat", "neil": "", "Élan": "cat", "É": "cat", "élan": "", "zo": "cat", "zoË": "cat", "zoë": "", "martins": "",
		"martin": "bob dan", "Martin": "bob dan", "mArT mAX": "bob",
	} {
		who, e := Find(p, s)
		equal(t, s, e, api.OK)
		list(t, s, who, split(want))
	}
	for _, s := range []string{"", " ", " m", "m ", "m  m", "m\tm", "m\n", "\xff", strings.Repeat("m", 61)} {
		_, e := Find(p, s)
		equal(t, s, e, api.ErrForm)
	}
	_, e := Find(p, strings.Repeat("m", 60))
	equal(t, "60 bytes", e, api.OK)
}

// taken says whether each wanted word can take a word of a name of its own, by trying all ways.
func taken(wanted, name []string) bool {
	if len(wanted) == 0 {
		return true
	}
	for i, word := range name {
		if strings.HasPrefix(word, wanted[0]) && taken(wanted[1:], slices.Delete(slices.Clone(name), i, i+1)) {
			return true
		}
	}
	return false
}

// upTo makes all lists of one to so many words.
func upTo(many int, words []string) [][]string {
	var all [][]string
	last := [][]string{nil}
	for range many {
		var longer [][]string
		for _, l := range last {
			for _, word := range words {
				longer = append(longer, append(slices.Clone(l), word))
			}
		}
		all = append(all, longer...)
		last = longer
	}
	return all
}

// P1.5: each word takes a different one, in whatever way they can be divided.
func TestFindAllWays(t *testing.T) {
	lists := upTo(3, []string{"a", "ab", "abc", "b", "ac"})
	for _, name := range lists {
		p := []api.Player{{Key: "k", Name: strings.Join(name, " "), Positions: []string{"gk"}}}
		for _, wanted := range lists {
			who, _ := Find(p, strings.Join(wanted, " "))
			if (len(who) == 1) != taken(wanted, name) {
				t.Fatalf("%q in %q: got %v", wanted, name, who)
			}
		}
	}
}

// P1.5: Text, and its bound.
func TestText(t *testing.T) {
	s, e := Text(people("jo gk Mary Jo Smith", "max df,mf,st Max é"))
	equal(t, "Text", e, api.OK)
	equal(t, "Text", s, "jo gk Mary Jo Smith\nmax df,mf,st Max é\n")
	s, e = Text(nil)
	equal(t, "Text of none", e, api.OK)
	equal(t, "Text of none", s, "")

	// A line of these has 40 + 1 + 409 + 1 + 60 + 1 bytes; the last one has 217 bytes of positions, so that all is MaxText.
	p := crowd(391)
	last := &p[390]
	last.Positions = append(wide(5), strings.Repeat("q", 12))
	s, e = Text(p)
	equal(t, "just enough", e, api.OK)
	equal(t, "just enough", len(s), api.MaxText)
	back, _, e := Read(s)
	equal(t, "just enough", e, api.OK)
	equal(t, "just enough", samePlayers(back, p), true)
	last.Positions[5] += "q"
	s, e = Text(p)
	equal(t, "too much", e, api.ErrLarge)
	equal(t, "too much", s, "")
	_, e = Text(people("b gk B", "a gk A"))
	equal(t, "players first", e, api.ErrOrder)
}

// P1.5: Read.
func TestRead(t *testing.T) {
	for _, x := range []struct {
		text   string
		number int
		want   api.Errno
	}{
		{"", 0, api.OK},
		{"jo gk Mary Jo Smith\n", 0, api.OK},
		{"jo gk Jo\nmax df,mf Max Martin\n", 0, api.OK},
		{"jo gk Jo", 0, api.ErrSyntax},
		{"jo gk Jo\nmax df Max", 1, api.ErrSyntax},
		{"\n", 0, api.ErrSyntax},
		{"jo gk Jo\n\n", 1, api.ErrSyntax},
		{"jo\n", 0, api.ErrSyntax},
		{"jo gk\n", 0, api.ErrSyntax},
		{" gk Jo\n", 0, api.ErrSyntax},
		{"jo  Jo\n", 0, api.ErrSyntax},
		{"jo , Jo\n", 0, api.ErrSyntax},
		{"jo gk, Jo\n", 0, api.ErrSyntax},
		{"jo ,gk Jo\n", 0, api.ErrSyntax},
		{"jo gk,,lw Jo\n", 0, api.ErrSyntax},
		{"jo\tgk Jo\n", 0, api.ErrSyntax},
		{"jo gk Jo\njo gk Jo\nx\ny\n", 2, api.ErrSyntax},
		{"jo gk \n", 0, api.ErrForm},
		{"jo gk  Jo\n", 0, api.ErrForm},
		{"jo gk Jo \n", 0, api.ErrForm},
		{"jo gk Jo\r\n", 0, api.ErrForm},
		{"Jo gk Jo\n", 0, api.ErrName},
		{"jo Gk Jo\n", 0, api.ErrName},
		{"jo,gk mf Jo\n", 0, api.ErrName},
		{"jo gk,df Jo\n", 0, api.ErrOrder},
		{"max gk Max\njo gk Jo\n", 0, api.ErrOrder},
		{"jo a,b,c,d,e,f,g,h,i,j,k Jo\n", 0, api.ErrLarge},
		{strings.Repeat("a b \n", 501), 0, api.ErrLarge},
		{strings.Repeat("a b \n", 501) + "a\n", 501, api.ErrSyntax},
		{"a b " + strings.Repeat("\n", api.MaxText-4), 1, api.ErrSyntax},
		{"a b " + strings.Repeat("\n", api.MaxText-3), 0, api.ErrLarge},
	} {
		p, number, e := Read(x.text)
		equal(t, x.text[:min(len(x.text), 40)], e, x.want)
		equal(t, x.text[:min(len(x.text), 40)]+" line", number, x.number)
		if e != api.OK {
			equal(t, "players with an error", len(p), 0)
			continue
		}
		s, e := Text(p)
		equal(t, x.text, e, api.OK)
		equal(t, "what is read is written", s, x.text)
	}
}

// P1.5 and Z10: what Text writes Read reads to an equal value.
func TestTextAndRead(t *testing.T) {
	for _, p := range [][]api.Player{nil, people("jo gk Jo"), people("a- a,b A, b", "a_ x0,x_ Ñ ~", "b z -"), crowd(300)} {
		s, e := Text(p)
		equal(t, "Text", e, api.OK)
		back, number, e := Read(s)
		equal(t, "Read", e, api.OK)
		equal(t, "line", number, 0)
		equal(t, "the same", samePlayers(back, p), true)
	}
}
