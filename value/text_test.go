package value

import (
	"fmt"
	"math"
	"math/rand/v2"
	"strings"
	"testing"

	"benchwarmer/api"
)

// P8.5: Text, and Read of it.
func TestText(t *testing.T) {
	for _, x := range []struct {
		assets, want string
	}{
		{"", ""},
		{"a gk 10", "a gk 10\n"},
		{"a gk 0", "a gk 0\n"},
		{"a gk -1", "a gk -1\n"},
		{"a gk 1000000,b df -1000000", "a gk 1000000\nb df -1000000\n"},
		{"a-_0 z 7,b a-_0 12", "a-_0 z 7\nb a-_0 12\n"},
		{four, "a gk 10\nb gk 8\nc gk 5\nd gk 3\n"},
	} {
		s, e := Text(assets(x.assets))
		equal(t, x.assets, e, api.OK)
		equal(t, x.assets, s, x.want)
		l, number, e := Read(x.want)
		equal(t, x.assets, e, api.OK)
		equal(t, x.assets, number, 0)
		list(t, x.assets, l, assets(x.assets))
	}
}

// P8.5: errors of Text are those of CheckAssets.
func TestTextErrors(t *testing.T) {
	for _, x := range []struct {
		name string
		l    []api.Asset
		want api.Errno
	}{
		{"player", assets("A gk 1"), api.ErrName},
		{"no player", []api.Asset{{Position: "gk"}}, api.ErrName},
		{"position", assets("a GK 1"), api.ErrName},
		{"no position", []api.Asset{{Player: "a"}}, api.ErrName},
		{"value", assets("a gk 1000001"), api.ErrArg},
		{"a great value", []api.Asset{{Player: "a", Position: "gk", Value: math.MinInt}}, api.ErrArg},
		{"twice", assets("a gk 1,a gk 1"), api.ErrOrder},
		{"order", assets("b gk 1,a gk 1"), api.ErrOrder},
		{"too many", manyAssets(api.MaxAssets + 1), api.ErrLarge},
		{"as many as there can be", manyAssets(api.MaxAssets), api.OK},
	} {
		s, e := Text(x.l)
		equal(t, x.name, e, x.want)
		equal(t, x.name, s != "", e == api.OK)
	}
}

// written writes assets, right or wrong, in the form of Text.
func written(l []api.Asset) string {
	var b strings.Builder
	for _, x := range l {
		fmt.Fprintf(&b, "%s %s %d\n", x.Player, x.Position, x.Value)
	}
	return b.String()
}

// P8.5: texts that Read accepts, and how it errs with others.
func TestRead(t *testing.T) {
	const good, next = "a gk 10\n", "b df -7\n"
	long := strings.Repeat("x", api.MaxText)
	for _, x := range []struct {
		text   string
		number int
		want   api.Errno
	}{
		{"", 0, api.OK},
		{good, 0, api.OK},
		{good + next, 0, api.OK},
		{"a gk 10", 0, api.ErrSyntax},
		{good + "b df 7", 1, api.ErrSyntax},
		{"\n", 0, api.ErrSyntax},
		{good + "\n", 1, api.ErrSyntax},
		{good + "\n" + next, 1, api.ErrSyntax},
		{"a\n", 0, api.ErrSyntax},
		{"a gk\n", 0, api.ErrSyntax},
		{"a gk 10 1\n", 0, api.ErrSyntax},
		{"10 a gk\n", 0, api.ErrSyntax},
		{"a 10 gk\n", 0, api.ErrSyntax},
		{"a gk x\n", 0, api.ErrSyntax},
		{" a gk 10\n", 0, api.ErrSyntax},
		{"a gk 10 \n", 0, api.ErrSyntax},
		{"a  gk 10\n", 0, api.ErrSyntax},
		{"a gk  10\n", 0, api.ErrSyntax},
		{"a  10\n", 0, api.ErrSyntax},
		{" gk 10\n", 0, api.ErrSyntax},
		{"a gk \n", 0, api.ErrSyntax},
		{"a\tgk 10\n", 0, api.ErrSyntax},
		{"a gk 10\r\n", 0, api.ErrSyntax},
		{good + next + "x\ny\n", 2, api.ErrSyntax},
		{"A gk 10\nx\n", 1, api.ErrSyntax},
		{good + good + "x\n", 2, api.ErrSyntax},
		{"A gk 10\n", 0, api.ErrName},
		{"a GK 10\n", 0, api.ErrName},
		{"a\xff gk 10\n", 0, api.ErrName},
		{key(0) + "k gk 10\n", 0, api.ErrName},
		{"0 gk 10\n", 0, api.ErrName},
		{"a gk 1000000\n", 0, api.OK},
		{"a gk -1000000\n", 0, api.OK},
		{"a gk 1000001\n", 0, api.ErrArg},
		{"a gk -1000001\n", 0, api.ErrArg},
		{good + good, 0, api.ErrOrder},
		{next + good, 0, api.ErrOrder},
		{written(manyAssets(api.MaxAssets)), 0, api.OK},
		{written(manyAssets(api.MaxAssets + 1)), 0, api.ErrLarge},
		{written(manyAssets(api.MaxAssets+1)) + "x", api.MaxAssets + 1, api.ErrSyntax},
		{long, 0, api.ErrSyntax},
		{long + "x", 0, api.ErrLarge},
		{good + strings.Repeat("\n", api.MaxText-len(good)), 1, api.ErrSyntax},
		{good + strings.Repeat("\n", api.MaxText-len(good)+1), 0, api.ErrLarge},
	} {
		name := x.text[:min(len(x.text), 60)]
		l, number, e := Read(x.text)
		equal(t, name, e, x.want)
		equal(t, name+": line", number, x.number)
		if e != api.OK {
			list(t, name, l, nil)
			continue
		}
		s, e := Text(l)
		equal(t, name+": written", e, api.OK)
		equal(t, name+": written", s, x.text)
	}
}

// P8.5 and Z10: the number of a line.
func TestReadNumbers(t *testing.T) {
	for _, word := range []string{"01", "00", "-0", "-01", "+1", "-", "1-", "--1", "1.0", "1e1", "0x1", "1_0", "a", "１", "10000000", "-10000000", "00000001", "999999999999999", strings.Repeat("9", 100)} {
		l, number, e := Read("a gk 1\nb gk " + word + "\n")
		equal(t, word, e, api.ErrSyntax)
		equal(t, word, number, 1)
		list(t, word, l, nil)
	}
	// Numbers of 7 digits have their form, but not all of them are values.
	for _, word := range []string{"9999999", "-9999999", "1000001"} {
		_, number, e := Read("a gk " + word + "\n")
		equal(t, word, e, api.ErrArg)
		equal(t, word, number, 0)
	}
}

// P8.5: what Text writes of any assets, Read reads; as many as there can be are not too many bytes.
func TestTextPlainly(t *testing.T) {
	random := rand.New(rand.NewPCG(85, 1))
	longest := manyAssets(api.MaxAssets)
	for i := range longest {
		longest[i].Position, longest[i].Value = key(i), -api.MaxValue
	}
	all := [][]api.Asset{longest, manyAssets(api.MaxAssets)}
	for range 300 {
		all = append(all, anyAssets(random, "a", 20))
	}
	for _, l := range all {
		s, e := Text(l)
		equal(t, "Text", e, api.OK)
		equal(t, "Text", s, written(l))
		back, number, e := Read(s)
		equal(t, "Read", e, api.OK)
		equal(t, "Read", number, 0)
		list(t, "Read", back, l)
	}
}
