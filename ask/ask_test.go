package ask_test

import (
	"slices"
	"testing"

	"hoistway/ask"
)

func TestEvery(t *testing.T) {
	even := func(n int) bool { return n%2 == 0 }
	for _, c := range []struct {
		l    []int
		want bool
	}{
		{nil, true}, {[]int{}, true}, {[]int{2}, true}, {[]int{1}, false},
		{[]int{2, 4, 6}, true}, {[]int{1, 4, 6}, false}, {[]int{2, 3, 6}, false}, {[]int{2, 4, 7}, false},
	} {
		if ask.Every(c.l, even) != c.want {
			t.Errorf("%v: not %v", c.l, c.want)
		}
	}
	if !ask.Every([]string{"a", "b"}, func(s string) bool { return s != "" }) {
		t.Error("texts are elements too")
	}
}

func TestEach(t *testing.T) {
	even := func(n int) bool { return n%2 == 0 }
	for n, want := range [][]bool{{}, {true}, {true, false}, {true, false, true}} {
		if l := ask.Each(n, even); !slices.Equal(l, want) {
			t.Errorf("%d: %v", n, l)
		}
	}
}
