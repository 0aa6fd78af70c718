package roster

import (
	"math/rand/v2"
	"strings"
	"testing"

	"benchwarmer/api"
)

// P5.5: Text.
func TestText(t *testing.T) {
	for _, lines := range [][]string{
		nil,
		{"3 stash x p"},
		{"0 add x p", "0 drop x p", "0 stash x p", "0 back x p", "7 add add drop"},
		{"0 drop a-_0 b-_0", "345686399999 back " + key(0) + " " + key(1)},
	} {
		want := ""
		for _, line := range lines {
			want += line + "\n"
		}
		s, e := Text(moves(lines...))
		equal(t, "Text", e, api.OK)
		equal(t, "Text", s, want)
		l, number, e := Read(want)
		equal(t, want, e, api.OK)
		equal(t, want, number, 0)
		list(t, want, l, moves(lines...))
	}
}

// P5.5: errors of Text are those of CheckMoves.
func TestTextErrors(t *testing.T) {
	for _, x := range []struct {
		name string
		l    []api.Move
		want api.Errno
	}{
		{"moment", moves("-1 no X P"), api.ErrArg},
		{"kind", moves("0 no X P"), api.ErrKind},
		{"kind 5", []api.Move{{Kind: 5, Team: "x", Player: "p"}}, api.ErrKind},
		{"team", moves("0 add X p"), api.ErrName},
		{"player", moves("0 add x P"), api.ErrName},
		{"order", moves("1 add x p", "0 add x p"), api.ErrOrder},
		{"too many, whose text would be too long", manyMoves(api.MaxMoves+1, api.MoveStash), api.ErrLarge},
		{"wrong, and too long", append(manyMoves(api.MaxMoves-1, api.MoveStash), moves("0 add x p")...), api.ErrOrder},
	} {
		s, e := Text(x.l)
		equal(t, x.name, e, x.want)
		equal(t, x.name, s, "")
	}
}

// P5.5: the bound of Text.
func TestTextMost(t *testing.T) {
	line := len("100000000000 stash " + key(0) + " " + key(0) + "\n")
	for bytes, want := range map[int]api.Errno{api.MaxText - 1: api.OK, api.MaxText: api.OK, api.MaxText + 1: api.ErrLarge, api.MaxMoves * line: api.ErrLarge} {
		l := manyMoves(api.MaxMoves, api.MoveStash)
		// Shorter players make the text just as long.
		for i, more := 0, api.MaxMoves*line-bytes; more > 0; i++ {
			less := min(more, api.MaxName-1)
			l[i].Player = l[i].Player[less:]
			if l[i].Player[0] != 'k' {
				l[i].Player = "k" + l[i].Player[1:]
			}
			more -= less
		}
		equal(t, "moves", CheckMoves(l), api.OK)
		s, e := Text(l)
		equal(t, "Text", e, want)
		if want != api.OK {
			equal(t, "too much", s, "")
			continue
		}
		equal(t, "bytes", len(s), bytes)
		back, number, e := Read(s)
		equal(t, "Read", e, api.OK)
		equal(t, "line", number, 0)
		list(t, "Read", back, l)
	}
}

// P5.5: texts that Read accepts, and how it errs with others.
func TestRead(t *testing.T) {
	line := "3 stash x p\n"
	long := strings.Repeat("x", api.MaxText)
	for _, x := range []struct {
		text   string
		number int
		want   api.Errno
	}{
		{"", 0, api.OK},
		{line, 0, api.OK},
		{line + "3 stash x q\n4 back x p\n", 0, api.OK},
		{"3 stash x p", 0, api.ErrSyntax},
		{line + "4 back x p", 1, api.ErrSyntax},
		{"\n", 0, api.ErrSyntax},
		{line + "\n" + line, 1, api.ErrSyntax},
		{"3 stash x\n", 0, api.ErrSyntax},
		{"stash x p\n", 0, api.ErrSyntax},
		{"3 stash x p q\n", 0, api.ErrSyntax},
		{"3 Stash x p\n", 0, api.ErrSyntax},
		{"3 stashed x p\n", 0, api.ErrSyntax},
		{"3 3 x p\n", 0, api.ErrSyntax},
		{"3 - x p\n", 0, api.ErrSyntax},
		{"stash 3 x p\n", 0, api.ErrSyntax},
		{"3 x stash p\n", 0, api.ErrSyntax},
		{"3 stash x p \n", 0, api.ErrSyntax},
		{" 3 stash x p\n", 0, api.ErrSyntax},
		{"3  x p\n", 0, api.ErrSyntax},
		{"3 stash  p\n", 0, api.ErrSyntax},
		{"3 stash x \n", 0, api.ErrSyntax},
		{" stash x p\n", 0, api.ErrSyntax},
		{"3 stash  x p\n", 0, api.ErrSyntax},
		{"3 stash\tx p\n", 0, api.ErrSyntax},
		{"3 stash x p\r\n", 0, api.ErrName},
		{line + "4 back X\n", 1, api.ErrSyntax},
		{"-1 stash x p\nx\n", 1, api.ErrSyntax},
		{"-1 stash X p\n", 0, api.ErrArg},
		{"345686400000 stash X p\n", 0, api.ErrArg},
		{"3 stash X p\n", 0, api.ErrName},
		{"3 stash x -\n", 0, api.ErrName},
		{"3 stash x p\xff\n", 0, api.ErrName},
		{line + line, 0, api.ErrOrder},
		{line + "2 stash x p\n", 0, api.ErrOrder},
		{strings.Repeat(line, api.MaxMoves+1), 0, api.ErrLarge},
		{strings.Repeat(line, api.MaxMoves+1) + "b", api.MaxMoves + 1, api.ErrSyntax},
		{long, 0, api.ErrSyntax},
		{long + "x", 0, api.ErrLarge},
		{line + strings.Repeat("\n", api.MaxText-len(line)), 1, api.ErrSyntax},
		{line + strings.Repeat("\n", api.MaxText-len(line)+1), 0, api.ErrLarge},
	} {
		name := x.text[:min(len(x.text), 60)]
		l, number, e := Read(x.text)
		equal(t, name, e, x.want)
		equal(t, name+": line", number, x.number)
		if e != api.OK {
			list(t, name+": moves with an error", l, nil)
			continue
		}
		s, e := Text(l)
		equal(t, name+": written", e, api.OK)
		equal(t, name+": written", s, x.text)
	}
}

// P5.5 and Z10: the number of a line.
func TestReadNumbers(t *testing.T) {
	for _, word := range []string{"01", "00", "-0", "-01", "+1", "-", "1-", "1.0", "1e1", "0x1", "1_0", "a", "１", "1000000000000000", "-1000000000000000", "0000000000000001", strings.Repeat("9", 100)} {
		_, number, e := Read("0 add x p\n" + word + " add x q\n")
		equal(t, word, e, api.ErrSyntax)
		equal(t, word, number, 1)
	}
	// Numbers of 15 digits have their form, but no moment is so great.
	for _, word := range []string{"999999999999999", "-999999999999999", "-1"} {
		_, number, e := Read("0 add x p\n" + word + " add x q\n")
		equal(t, word, e, api.ErrArg)
		equal(t, word, number, 0)
	}
}

// P5.5: what Text writes of any moves, Read reads.
func TestTextPlainly(t *testing.T) {
	random := rand.New(rand.NewPCG(55, 1))
	for range 200 {
		_, l := anyMoves(random)
		s, e := Text(l)
		equal(t, "Text", e, api.OK)
		back, number, e := Read(s)
		equal(t, "Read", e, api.OK)
		equal(t, "Read", number, 0)
		list(t, "Read", back, l)
	}
}
