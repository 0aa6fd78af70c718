package value

import (
	"math"
	"strings"
	"testing"

	"benchwarmer/api"
)

// wrongKeys are no keys.
func wrongKeys() []string {
	return []string{"", "A", "0a", "-a", "_a", "a b", "a.b", "é", "a\xff", "a\n", strings.Repeat("a", api.MaxName+1), strings.Repeat("a", 200_000)}
}

// P8.1: CheckAssets.
func TestCheckAssets(t *testing.T) {
	for _, x := range []struct {
		all  string
		want api.Errno
	}{
		{"", api.OK},
		{"a gk 0", api.OK},
		{"a gk 1000000,b gk -1000000", api.OK},
		{"a a 1,b b 1", api.OK},
		{"a-_0 gk-_0 1", api.OK},
		{"a gk 1000001", api.ErrArg},
		{"a gk -1000001", api.ErrArg},
		{"a gk 1,a df 1", api.ErrOrder},
		{"b gk 1,a gk 1", api.ErrOrder},
		{"a gk 1,b gk 1,a gk 1", api.ErrOrder},
		{"A GK 1000001", api.ErrName},
		{"a GK 1000001", api.ErrName},
		{"b gk 1,a GK 1000001", api.ErrName},
		{"b gk 1,a gk 1000001", api.ErrArg},
		{"a gk 1,a gk 1,b gk 1000001", api.ErrOrder},
		{"a gk 1000001,A gk 1", api.ErrArg},
		{"A gk 1,b gk 1000001", api.ErrName},
	} {
		equal(t, x.all, CheckAssets(assets(x.all)), x.want)
	}
	for _, word := range wrongKeys() {
		equal(t, word, CheckAssets([]api.Asset{{Player: word, Position: "gk"}}), api.ErrName)
		equal(t, word, CheckAssets([]api.Asset{{Player: "a", Position: word}}), api.ErrName)
	}
	for _, n := range []int{math.MinInt, math.MaxInt} {
		equal(t, "a great value", CheckAssets([]api.Asset{{Player: "a", Position: "gk", Value: n}}), api.ErrArg)
	}
	equal(t, "the longest keys", CheckAssets([]api.Asset{{Player: key(0), Position: key(1)}}), api.OK)
	equal(t, "as many as there can be", CheckAssets(manyAssets(api.MaxAssets)), api.OK)
	equal(t, "one more", CheckAssets(manyAssets(api.MaxAssets+1)), api.ErrLarge)
	equal(t, "one more, all of them wrong", CheckAssets(make([]api.Asset, api.MaxAssets+1)), api.ErrLarge)
}

// P8.1: CheckPlaces.
func TestCheckPlaces(t *testing.T) {
	const ten = "a:1 b:1 c:1 d:1 e:1 f:1 g:1 h:1 i:1 j:1"
	for _, x := range []struct {
		all  string
		want api.Errno
	}{
		{"", api.OK},
		{"gk:0", api.OK},
		{"gk:12", api.OK},
		{"df:4 gk:1 mf:4 st:2", api.OK},
		{"gk:13", api.ErrArg},
		{"gk:-1", api.ErrArg},
		{"gk:1 gk:1", api.ErrOrder},
		{"gk:1 df:1", api.ErrOrder},
		{"GK:13", api.ErrName},
		{"gk:1 DF:13", api.ErrName},
		{"gk:1 df:13", api.ErrArg},
		{"gk:1 df:1 mf:13", api.ErrOrder},
		{"gk:13 GK:1", api.ErrArg},
		{ten, api.OK},
		{ten + " k:1", api.ErrLarge},
		{"A:1 " + ten, api.ErrLarge},
	} {
		equal(t, x.all, CheckPlaces(places(x.all)), x.want)
	}
	for _, word := range wrongKeys() {
		equal(t, word, CheckPlaces([]api.Place{{Position: word, Many: 1}}), api.ErrName)
	}
	for _, n := range []int{math.MinInt, math.MaxInt} {
		equal(t, "many", CheckPlaces([]api.Place{{Position: "gk", Many: n}}), api.ErrArg)
	}
	equal(t, "the longest key", CheckPlaces([]api.Place{{Position: key(0), Many: 1}}), api.OK)
}
