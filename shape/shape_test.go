package shape_test

import (
	"testing"

	"hoistway/api"
	"hoistway/shape"
)

func TestValuesAndBack(t *testing.T) {
	n := api.Node{Op: api.If, D: 1, A: 2, B: 3, Then: 4, Else: 5}
	v := shape.Values(n)
	if v != [shape.Fields]int{1, 2, 3, 4, 5} {
		t.Error(v)
	}
	if m := shape.Node(n.Op, v); m != n {
		t.Error(m)
	}
}

func TestOnlyKnownOperationsHaveAShape(t *testing.T) {
	for op := -2; op < 16; op++ {
		kinds, ok := shape.Of(op)
		if ok != (op >= api.Skip && op <= api.End) {
			t.Errorf("%d: %v", op, ok)
		}
		if !ok && kinds != [shape.Fields]shape.Kind{} {
			t.Errorf("%d: %v", op, kinds)
		}
	}
}

func TestTermsFromAddToLess(t *testing.T) {
	for op := -2; op < 16; op++ {
		got, ok := shape.Term(api.Node{Op: op, D: 1, A: 2, B: 3, Then: 4})
		want := api.Term{}
		if op >= 3 && op <= 8 {
			want = api.Term{Op: op, A: 2, B: 3}
		}
		if got != want || ok != (want != api.Term{}) {
			t.Errorf("%d: %v %v", op, got, ok)
		}
	}
}

func TestSetsFromSetToIn(t *testing.T) {
	for op := -2; op < 16; op++ {
		got, ok := shape.Sets(api.Node{Op: op, D: 7})
		if is := op >= api.Set && op <= api.In; ok != is || is != (got == 7) || !is && got != 0 {
			t.Errorf("%d: %d %v", op, got, ok)
		}
	}
}

func TestReckonsByAllThree(t *testing.T) {
	for op := -2; op < 16; op++ {
		n := api.Node{Op: op, D: 1, A: 2, B: 3, Then: 4}
		if is := op >= api.Add && op <= api.Less; shape.Reckons(n, api.Term{Op: op, A: 2, B: 3}) != is {
			t.Errorf("%v: not %v", n, is)
		}
		for _, u := range []api.Term{{Op: op + 1, A: 2, B: 3}, {Op: op, A: 3, B: 3}, {Op: op, A: 2, B: 2}, {Op: op, A: 3, B: 2}, {}} {
			if shape.Reckons(n, u) {
				t.Errorf("%v reckons %v", n, u)
			}
		}
	}
}

func TestKeepsUnlessItSetsOneOfBoth(t *testing.T) {
	for op := -2; op < 16; op++ {
		for d := range 4 {
			n := api.Node{Op: op, D: d}
			is := op < api.Set || op > api.In || d != 0 && d != 2
			if shape.Keeps(n, api.Term{Op: api.Add, A: 0, B: 2}) != is || shape.Keeps(n, api.Term{Op: api.Mul, A: 2, B: 0}) != is {
				t.Errorf("%v: not %v", n, is)
			}
		}
	}
}
