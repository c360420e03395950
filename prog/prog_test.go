package prog_test

import (
	"math"
	"slices"
	"strings"
	"testing"

	"hoistway/api"
	"hoistway/prog"
)

// fieldsOf has the table of chapter 1 once more, word for word, so that the program's own is held against it.
var fieldsOf = map[int]string{
	api.Skip: "Then",
	api.Set:  "D A Then",
	api.Copy: "D A Then",
	api.Add:  "D A B Then",
	api.Sub:  "D A B Then",
	api.Mul:  "D A B Then",
	api.And:  "D A B Then",
	api.Xor:  "D A B Then",
	api.Less: "D A B Then",
	api.In:   "D Then",
	api.Out:  "A Then",
	api.If:   "A Then Else",
	api.End:  "A",
}

func has(op int, field string) bool {
	return slices.Contains(strings.Fields(fieldsOf[op]), field)
}

func field(n *api.Node, name string) *int {
	return map[string]*int{"D": &n.D, "A": &n.A, "B": &n.B, "Then": &n.Then, "Else": &n.Else}[name]
}

// nodeOf is a right node of a program of at least two nodes.
func nodeOf(op int) api.Node {
	n := api.Node{Op: op}
	for _, f := range []string{"Then", "Else"} {
		if has(op, f) {
			*field(&n, f) = 1
		}
	}
	return n
}

func withNode(n api.Node) api.Prog {
	return api.Prog{Regs: 3, Nodes: []api.Node{n, {Op: api.End}, {Op: api.End}}}
}

// small is example 1 of the document.
func small() api.Prog {
	return api.Prog{Regs: 3, Nodes: []api.Node{
		{Op: api.In, D: 0, Then: 1},
		{Op: api.In, D: 1, Then: 2},
		{Op: api.If, A: 0, Then: 3, Else: 5},
		{Op: api.Add, D: 2, A: 0, B: 1, Then: 4},
		{Op: api.Out, A: 2, Then: 5},
		{Op: api.Add, D: 2, A: 0, B: 1, Then: 6},
		{Op: api.End, A: 2},
	}}
}

func ends(n int) []api.Node {
	l := make([]api.Node, n)
	for i := range l {
		l[i].Op = api.End
	}
	return l
}

func TestA1Sizes(t *testing.T) {
	for _, c := range []struct {
		regs, nodes int
		want        api.Errno
	}{
		{1, 1, api.OK}, {api.MaxRegs, api.MaxNodes, api.OK},
		{0, 1, api.ErrMany}, {-1, 1, api.ErrMany}, {api.MaxRegs + 1, 1, api.ErrMany}, {math.MaxInt, 1, api.ErrMany}, {math.MinInt, 1, api.ErrMany},
		{1, 0, api.ErrMany}, {1, api.MaxNodes + 1, api.ErrMany}, {0, 0, api.ErrMany},
	} {
		if e := prog.Check(api.Prog{Regs: c.regs, Nodes: ends(c.nodes)}); e != c.want {
			t.Errorf("%d registers, %d nodes: %d, not %d", c.regs, c.nodes, e, c.want)
		}
	}
	if e := prog.Check(api.Prog{Regs: 1, Nodes: []api.Node{}}); e != api.ErrMany {
		t.Errorf("an empty list of nodes: %d", e)
	}
}

func TestA1Kinds(t *testing.T) {
	for op := -3; op < 20; op++ {
		want := api.OK
		if op < api.Skip || op > api.End {
			want = api.ErrKind
		}
		if e := prog.Check(withNode(nodeOf(op))); e != want {
			t.Errorf("Op %d: %d, not %d", op, e, want)
		}
	}
	for _, op := range []int{math.MinInt, math.MaxInt, 256, 1 << 32} {
		if e := prog.Check(withNode(api.Node{Op: op})); e != api.ErrKind {
			t.Errorf("Op %d: %d", op, e)
		}
	}
}

// wantOf is what Check must tell of a right node whose one field is v, in a program of 3 registers and 3 nodes.
func wantOf(op int, f string, v int) api.Errno {
	switch {
	case !has(op, f) && v != 0:
		return api.ErrForm
	case !has(op, f), op == api.Set && f == "A":
		return api.OK
	case v < 0 || v > 2:
		return api.ErrRange
	case v == 0 && (f == "Then" || f == "Else"):
		return api.ErrRange
	}
	return api.OK
}

func TestA1Fields(t *testing.T) {
	for op := api.Skip; op <= api.End; op++ {
		for _, f := range []string{"D", "A", "B", "Then", "Else"} {
			for _, v := range []int{math.MinInt, -1, 0, 1, 2, 3, 64, math.MaxInt} {
				n := nodeOf(op)
				*field(&n, f) = v
				if e, want := prog.Check(withNode(n)), wantOf(op, f, v); e != want {
					t.Errorf("Op %d, %s %d: %d, not %d", op, f, v, e, want)
				}
			}
		}
	}
}

func TestA1FirstErrorThatApplies(t *testing.T) {
	form := api.Node{Op: api.End, D: 1}
	rng := api.Node{Op: api.End, A: 3}
	kind := api.Node{Op: 13}
	for _, c := range []struct {
		regs  int
		nodes []api.Node
		want  api.Errno
	}{
		{3, []api.Node{form}, api.ErrForm},
		{3, []api.Node{form, rng}, api.ErrRange},
		{3, []api.Node{rng, form}, api.ErrRange},
		{3, []api.Node{{Op: api.End, A: 3, B: 1}}, api.ErrRange},
		{3, []api.Node{form, rng, kind}, api.ErrKind},
		{3, []api.Node{kind, rng, form}, api.ErrKind},
		{0, []api.Node{form, rng, kind}, api.ErrMany},
		{3, append(ends(api.MaxNodes), form, rng, kind), api.ErrMany},
	} {
		p := api.Prog{Regs: c.regs, Nodes: c.nodes}
		if e := prog.Check(p); e != c.want {
			t.Errorf("%v: %d, not %d", p, e, c.want)
		}
		sameError(t, p, c.want)
	}
}

// sameError: all other calls tell Check's error first, and nothing else.
func sameError(t *testing.T, p api.Prog, want api.Errno) {
	t.Helper()
	for _, n := range []int{-1, 0, len(p.Nodes)} {
		if l, e := prog.Next(p, n); e != want || l != nil {
			t.Errorf("Next %v %d: %v %d, not %d", p, n, l, e, want)
		}
		if l, e := prog.Ahead(p, n); e != want || l != nil {
			t.Errorf("Ahead %v %d: %v %d, not %d", p, n, l, e, want)
		}
	}
	if l, e := prog.Terms(p); e != want || l != nil {
		t.Errorf("Terms %v: %v %d, not %d", p, l, e, want)
	}
}

func TestA2Example(t *testing.T) {
	p := small()
	next := [][]int{{1}, {2}, {3, 5}, {4}, {5}, {6}, {}}
	ahead := [][]int{{}, {0}, {1}, {2}, {3}, {2, 4}, {5}}
	for n := range p.Nodes {
		if l, e := prog.Next(p, n); e != api.OK || !slices.Equal(l, next[n]) {
			t.Errorf("Next %d: %v %d", n, l, e)
		}
		if l, e := prog.Ahead(p, n); e != api.OK || !slices.Equal(l, ahead[n]) {
			t.Errorf("Ahead %d: %v %d", n, l, e)
		}
	}
	if l, e := prog.Terms(p); e != api.OK || !slices.Equal(l, []api.Term{{Op: api.Add, A: 0, B: 1}}) {
		t.Errorf("Terms: %v %d", l, e)
	}
}

func TestA2RisingAndOnce(t *testing.T) {
	p := api.Prog{Regs: 1, Nodes: []api.Node{
		{Op: api.If, Then: 3, Else: 1},
		{Op: api.If, Then: 2, Else: 2},
		{Op: api.Skip, Then: 2},
		{Op: api.If, Then: 3, Else: 2},
		{Op: api.End},
	}}
	for n, want := range [][]int{{1, 3}, {2}, {2}, {2, 3}, {}} {
		if l, e := prog.Next(p, n); e != api.OK || !slices.Equal(l, want) {
			t.Errorf("Next %d: %v %d, not %v", n, l, e, want)
		}
	}
	for n, want := range [][]int{{}, {0}, {1, 2, 3}, {0, 3}, {}} {
		if l, e := prog.Ahead(p, n); e != api.OK || !slices.Equal(l, want) {
			t.Errorf("Ahead %d: %v %d, not %v", n, l, e, want)
		}
	}
}

func TestA2NoSuchNode(t *testing.T) {
	p := small()
	for _, n := range []int{-1, 7, math.MinInt, math.MaxInt} {
		if l, e := prog.Next(p, n); e != api.ErrRange || l != nil {
			t.Errorf("Next %d: %v %d", n, l, e)
		}
		if l, e := prog.Ahead(p, n); e != api.ErrRange || l != nil {
			t.Errorf("Ahead %d: %v %d", n, l, e)
		}
	}
}

func TestA2Terms(t *testing.T) {
	p := api.Prog{Regs: 2, Nodes: []api.Node{
		{Op: api.Less, D: 1, A: 1, B: 0, Then: 1},
		{Op: api.Copy, D: 1, A: 1, Then: 2},
		{Op: api.Add, D: 0, A: 0, B: 1, Then: 3},
		{Op: api.Set, D: 0, A: 1, Then: 9},
		{Op: api.Add, D: 0, A: 1, B: 0, Then: 5}, // never come to, and a term all the same
		{Op: api.Less, D: 0, A: 1, B: 0, Then: 6},
		{Op: api.Sub, D: 0, A: 0, B: 1, Then: 7},
		{Op: api.Mul, D: 0, A: 0, B: 0, Then: 8},
		{Op: api.Xor, D: 0, A: 0, B: 0, Then: 9},
		{Op: api.And, D: 0, A: 0, B: 0, Then: 10},
		{Op: api.Add, D: 1, A: 0, B: 1, Then: 11},
		{Op: api.End},
	}}
	want := []api.Term{
		{Op: api.Less, A: 1, B: 0}, {Op: api.Add, A: 0, B: 1}, {Op: api.Add, A: 1, B: 0}, {Op: api.Sub, A: 0, B: 1},
		{Op: api.Mul}, {Op: api.Xor}, {Op: api.And},
	}
	if l, e := prog.Terms(p); e != api.OK || !slices.Equal(l, want) {
		t.Errorf("%v %d, not %v", l, e, want)
	}
	if l, e := prog.Terms(withNode(nodeOf(api.Copy))); e != api.OK || len(l) != 0 {
		t.Errorf("nothing is reckoned: %v %d", l, e)
	}
}

// draw: numbers that are the same each time.
type draw uint64

func (d *draw) below(n int) int {
	*d = *d*6364136223846793005 + 1442695040888963407
	return int(uint64(*d) >> 33 % uint64(n))
}

func TestP1WhateverIsHandedIn(t *testing.T) {
	r := draw(7)
	odd := []int{math.MinInt, -1, 0, 0, 1, 1, 2, 3, 12, 13, 64, 256, math.MaxInt}
	pick := func() int { return odd[r.below(len(odd))] }
	for range 3000 {
		p := api.Prog{Regs: pick()}
		for range r.below(4) {
			p.Nodes = append(p.Nodes, api.Node{Op: r.below(14), D: pick(), A: pick(), B: pick(), Then: pick(), Else: pick()})
		}
		if e := prog.Check(p); e != api.OK {
			sameError(t, p, e)
		}
	}
}

func TestP2OnlyReadAndNew(t *testing.T) {
	room := append(small().Nodes, api.Node{Op: 99, D: 98}, api.Node{Op: 97})
	kept := slices.Clone(room)
	p := api.Prog{Regs: 3, Nodes: room[:7]}
	for n := range p.Nodes {
		first, _ := prog.Next(p, n)
		ahead, _ := prog.Ahead(p, n)
		for _, l := range [][]int{first, ahead} {
			for i := range l {
				l[i] = -5
			}
			_ = append(l, -6)
		}
		again, _ := prog.Next(p, n)
		behind, _ := prog.Ahead(p, n)
		if slices.Contains(again, -5) || slices.Contains(behind, -5) {
			t.Errorf("node %d: an answer is kept", n)
		}
	}
	terms, _ := prog.Terms(p)
	terms[0].Op = -5
	if again, _ := prog.Terms(p); again[0].Op != api.Add {
		t.Error("an answer of Terms is kept")
	}
	if !slices.Equal(room, kept) {
		t.Errorf("what was handed in is changed: %v", room)
	}
}

func TestP3NothingIsKept(t *testing.T) {
	p := small()
	if l, _ := prog.Next(p, 2); !slices.Equal(l, []int{3, 5}) {
		t.Error(l)
	}
	p.Nodes[2].Else = 4
	if l, _ := prog.Next(p, 2); !slices.Equal(l, []int{3, 4}) {
		t.Error(l)
	}
	p.Nodes[2].Else = 5
	if l, _ := prog.Next(p, 2); !slices.Equal(l, []int{3, 5}) {
		t.Error(l)
	}
}

func TestP4GreatestProgram(t *testing.T) {
	p := api.Prog{Regs: api.MaxRegs}
	for i := range api.MaxNodes - 1 {
		p.Nodes = append(p.Nodes, api.Node{Op: api.Add, D: 63, A: i % 64, B: i / 64, Then: i + 1})
	}
	p.Nodes = append(p.Nodes, api.Node{Op: api.End, A: 63})
	if l, e := prog.Terms(p); e != api.OK || len(l) != 255 || l[254] != (api.Term{Op: api.Add, A: 62, B: 3}) {
		t.Errorf("%d terms, %d", len(l), e)
	}
	if l, e := prog.Ahead(p, 255); e != api.OK || !slices.Equal(l, []int{254}) {
		t.Errorf("%v %d", l, e)
	}
	if e := prog.Check(api.Prog{Regs: 1, Nodes: make([]api.Node, 1<<20)}); e != api.ErrMany {
		t.Errorf("far too many nodes: %d", e)
	}
}
