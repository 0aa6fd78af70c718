package rising

import (
	"cmp"
	"slices"
	"testing"
)

// card is at the place of its number.
type card struct {
	number int
	face   string
}

func byNumber(x, y card) int { return cmp.Compare(x.number, y.number) }

func TestMerge(t *testing.T) {
	one, two, three, other := card{1, "a"}, card{2, "b"}, card{3, "a"}, card{2, "c"}
	for _, x := range []struct {
		name       string
		a, b, want []card
		agree      bool
	}{
		{"nothing", nil, nil, nil, true},
		{"one list", []card{one, two}, nil, []card{one, two}, true},
		{"another list", nil, []card{one, two}, []card{one, two}, true},
		{"in turn", []card{one, three}, []card{two}, []card{one, two, three}, true},
		{"one behind the other", []card{three}, []card{one, two}, []card{one, two, three}, true},
		{"equal ones once", []card{one, two}, []card{two, three}, []card{one, two, three}, true},
		{"the same", []card{one, two, three}, []card{one, two, three}, []card{one, two, three}, true},
		{"the zero value", []card{{}}, []card{{}, one}, []card{{}, one}, true},
		{"two at a place", []card{one, two}, []card{other, three}, nil, false},
		{"a zero value and another one", []card{{}}, []card{{0, "a"}}, nil, false},
	} {
		all, agree := Merge(x.a, x.b, byNumber)
		if !slices.Equal(all, x.want) || agree != x.agree {
			t.Errorf("%s: got %v, %v", x.name, all, agree)
		}
	}
}

// Z2: arguments are not modified, and results are new memory.
func TestMergeMemory(t *testing.T) {
	memory := []card{{1, "a"}, {3, "c"}, {2, "behind"}}
	for _, b := range [][]card{nil, {{2, "b"}}} {
		all, _ := Merge(memory[:2], b, byNumber)
		for i := range all[:cap(all)] {
			all[:cap(all)][i] = card{9, "scribble"}
		}
		if !slices.Equal(memory, []card{{1, "a"}, {3, "c"}, {2, "behind"}}) {
			t.Errorf("the argument is %v", memory)
		}
	}
}
