package links_test

import (
	"slices"
	"testing"

	"hoistway/api"
	"hoistway/links"
)

func TestExitsThenAheadOfElseEachOnce(t *testing.T) {
	for _, c := range []struct {
		x    api.Node
		want []int
	}{
		{api.Node{Op: api.If, Then: 9, Else: 4}, []int{9, 4}},
		{api.Node{Op: api.If, Then: 4, Else: 9}, []int{4, 9}},
		{api.Node{Op: api.If, Then: 4, Else: 4}, []int{4}},
		{api.Node{Op: api.Skip, Then: 3}, []int{3}},
		{api.Node{Op: api.Add, D: 5, A: 6, B: 7, Then: 3}, []int{3}},
		{api.Node{Op: api.End, A: 5}, nil},
	} {
		if l := slices.Collect(links.Exits(c.x)); !slices.Equal(l, c.want) {
			t.Errorf("%v: %v, not %v", c.x, l, c.want)
		}
	}
}

func TestExitsMayBeBrokenOff(t *testing.T) {
	n := 0
	for range links.Exits(api.Node{Op: api.If, Then: 1, Else: 2}) {
		n++
		break
	}
	if n != 1 {
		t.Error(n)
	}
}

func TestNextAndAheadOfAllNodes(t *testing.T) {
	p := api.Prog{Regs: 1, Nodes: []api.Node{
		{Op: api.If, Then: 3, Else: 1},
		{Op: api.If, Then: 2, Else: 2},
		{Op: api.Skip, Then: 2},
		{Op: api.If, Then: 3, Else: 2},
		{Op: api.End},
	}}
	next, ahead := links.Next(p), links.Ahead(p)
	for n, want := range [][]int{{1, 3}, {2}, {2}, {2, 3}, {}} {
		if !slices.Equal(next[n], want) {
			t.Errorf("next of %d: %v, not %v", n, next[n], want)
		}
	}
	for n, want := range [][]int{{}, {0}, {1, 2, 3}, {0, 3}, {}} {
		if !slices.Equal(ahead[n], want) {
			t.Errorf("ahead of %d: %v, not %v", n, ahead[n], want)
		}
	}
}
