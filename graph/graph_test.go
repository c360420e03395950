package graph_test

import (
	"math"
	"reflect"
	"slices"
	"testing"

	"hoistway/api"
	"hoistway/graph"
	"hoistway/prog"
	"hoistway/run"
)

// small is example 1 of the document.
func small() api.Prog {
	return api.Prog{Regs: 3, Nodes: []api.Node{
		{Op: api.In, D: 0, Then: 1},
		{Op: api.In, D: 1, Then: 2},
		{Op: api.If, A: 0, Then: 3, Else: 5},
		{Op: api.Add, D: 2, A: 0, B: 1, Then: 4},
		{Op: api.Out, A: 2, Then: 5},
		{Op: api.Add, D: 2, A: 0, B: 1, Then: 6},
		{Op: api.End, A: 2},
	}}
}

// draw: numbers that are the same each time.
type draw uint64

func (d *draw) below(n int) int {
	*d = *d*6364136223846793005 + 1442695040888963407
	return int(uint64(*d) >> 33 % uint64(n))
}

// drawn is a right program of n nodes, of all operations, that leads anywhere.
func drawn(r *draw, n int) api.Prog {
	p := api.Prog{Regs: 1 + r.below(4)}
	reg := func() int { return r.below(p.Regs) }
	for i := range n - 1 {
		x := api.Node{Op: r.below(api.End), Then: i + 1}
		if r.below(3) == 0 {
			x.Then = 1 + r.below(n-1)
		}
		switch x.Op {
		case api.Skip:
		case api.Set:
			x.D, x.A = reg(), r.below(5)-2
		case api.Copy:
			x.D, x.A = reg(), reg()
		case api.In:
			x.D = reg()
		case api.Out:
			x.A = reg()
		case api.If:
			x.A, x.Else = reg(), 1+r.below(n-1)
		default:
			x.D, x.A, x.B = reg(), reg(), reg()
		}
		p.Nodes = append(p.Nodes, x)
	}
	p.Nodes = append(p.Nodes, api.Node{Op: api.End, A: reg()})
	return p
}

func next(t *testing.T, p api.Prog, n int) []int {
	t.Helper()
	l, e := prog.Next(p, n)
	if e != api.OK {
		t.Fatalf("%v: %d", p, e)
	}
	return l
}

// mustBe holds a program, and that it is right, against the one that is asked for.
func mustBe(t *testing.T, what string, p api.Prog, e api.Errno, want api.Prog) {
	t.Helper()
	if e != api.OK || p.Regs != want.Regs || !slices.Equal(p.Nodes, want.Nodes) {
		t.Errorf("%s: it is\n%v %d\nand must be\n%v", what, p, e, want)
	}
	if e := prog.Check(p); e != api.OK {
		t.Errorf("%s: no right program: %d", what, e)
	}
}

func TestD1Reach(t *testing.T) {
	for _, c := range []struct {
		nodes []api.Node
		want  []bool
	}{
		{small().Nodes, []bool{true, true, true, true, true, true, true}},
		{[]api.Node{{Op: api.End}}, []bool{true}},
		{[]api.Node{{Op: api.End}, {Op: api.End}}, []bool{true, false}},
		// Both ways of an If count, whatever the register is.
		{[]api.Node{{Op: api.If, Then: 2, Else: 1}, {Op: api.End}, {Op: api.End}}, []bool{true, true, true}},
		{[]api.Node{{Op: api.If, Then: 2, Else: 2}, {Op: api.End}, {Op: api.End}}, []bool{true, false, true}},
		// Whoever is led to only by nodes that are not come to is not come to.
		{[]api.Node{{Op: api.Skip, Then: 3}, {Op: api.Skip, Then: 2}, {Op: api.Skip, Then: 1}, {Op: api.Skip, Then: 3}, {Op: api.Skip, Then: 3}}, []bool{true, false, false, true, false}},
		// Backward and forward again.
		{[]api.Node{{Op: api.Skip, Then: 4}, {Op: api.Skip, Then: 3}, {Op: api.End}, {Op: api.Skip, Then: 5}, {Op: api.Skip, Then: 1}, {Op: api.Skip, Then: 4}}, []bool{true, true, false, true, true, true}},
	} {
		p := api.Prog{Regs: 1, Nodes: c.nodes}
		if c.nodes[0].Op == api.In {
			p.Regs = 3
		}
		if l, e := graph.Reach(p); e != api.OK || !slices.Equal(l, c.want) {
			t.Errorf("%v: %v %d, not %v", c.nodes, l, e, c.want)
		}
	}
}

// reached is found another way: by as many rounds as there are nodes.
func reached(t *testing.T, p api.Prog) []bool {
	l := make([]bool, len(p.Nodes))
	l[0] = true
	for range p.Nodes {
		for n := range p.Nodes {
			for _, m := range next(t, p, n) {
				l[m] = l[m] || l[n]
			}
		}
	}
	return l
}

func TestD1ReachOfDrawnPrograms(t *testing.T) {
	r := draw(1)
	for range 500 {
		p := drawn(&r, 2+r.below(16))
		if l, e := graph.Reach(p); e != api.OK || !slices.Equal(l, reached(t, p)) {
			t.Errorf("%v: %v %d", p, l, e)
		}
	}
}

func TestD1Trim(t *testing.T) {
	p, e := graph.Trim(small())
	mustBe(t, "nothing to be trimmed", p, e, small())
	p, e = graph.Trim(api.Prog{Regs: 9, Nodes: []api.Node{
		{Op: api.Set, D: 3, A: 5, Then: 6},
		{Op: api.Out, A: 3, Then: 4},
		{Op: api.End, A: 1},
		{Op: api.Copy, D: 8, A: 3, Then: 8},
		{Op: api.If, A: 3, Then: 1, Else: 8},
		{Op: api.Skip, Then: 3},
		{Op: api.If, A: 3, Then: 8, Else: 3},
		{Op: api.Less, D: 2, A: 1, B: 2, Then: 1},
		{Op: api.If, A: 8, Then: 3, Else: 9},
		{Op: api.End, A: 2},
	}})
	mustBe(t, "five of ten", p, e, api.Prog{Regs: 9, Nodes: []api.Node{
		{Op: api.Set, D: 3, A: 5, Then: 2},
		{Op: api.Copy, D: 8, A: 3, Then: 3},
		{Op: api.If, A: 3, Then: 3, Else: 1},
		{Op: api.If, A: 8, Then: 1, Else: 4},
		{Op: api.End, A: 2},
	}})
	p, e = graph.Trim(api.Prog{Regs: 1, Nodes: []api.Node{{Op: api.End}, {Op: api.Skip, Then: 1}}})
	mustBe(t, "one node", p, e, api.Prog{Regs: 1, Nodes: []api.Node{{Op: api.End}}})
}

func TestD1TrimOfDrawnPrograms(t *testing.T) {
	r := draw(2)
	for range 500 {
		p := drawn(&r, 2+r.below(16))
		want := api.Prog{Regs: p.Regs}
		var was []int // the old numbers of those that stay
		for n, is := range reached(t, p) {
			if is {
				was = append(was, n)
			}
		}
		for _, n := range was {
			x := p.Nodes[n]
			if x.Then > 0 {
				x.Then = slices.Index(was, x.Then)
			}
			if x.Else > 0 {
				x.Else = slices.Index(was, x.Else)
			}
			want.Nodes = append(want.Nodes, x)
		}
		q, e := graph.Trim(p)
		mustBe(t, "trimmed", q, e, want)
		again, e := graph.Trim(q)
		mustBe(t, "trimmed once more", again, e, want)
	}
}

func TestD2SplitOfTheExample(t *testing.T) {
	want := small()
	want.Nodes[2].Else = 7
	want.Nodes[4].Then = 8
	want.Nodes = append(want.Nodes, api.Node{Op: api.Skip, Then: 5}, api.Node{Op: api.Skip, Then: 5})
	p, e := graph.Split(small())
	mustBe(t, "example 4", p, e, want)
}

func TestD2SplitOrder(t *testing.T) {
	p, e := graph.Split(api.Prog{Regs: 2, Nodes: []api.Node{
		{Op: api.If, A: 1, Then: 4, Else: 3},
		{Op: api.Out, A: 1, Then: 3}, // never come to, and ahead of node 3 all the same
		{Op: api.Skip, Then: 4},      // a Skip leads there as it is
		{Op: api.If, A: 0, Then: 4, Else: 4},
		{Op: api.If, A: 1, Then: 4, Else: 5},
		{Op: api.End, A: 1},
	}})
	mustBe(t, "Then ahead of Else, one for both", p, e, api.Prog{Regs: 2, Nodes: []api.Node{
		{Op: api.If, A: 1, Then: 6, Else: 7},
		{Op: api.Out, A: 1, Then: 8},
		{Op: api.Skip, Then: 4},
		{Op: api.If, A: 0, Then: 9, Else: 9},
		{Op: api.If, A: 1, Then: 10, Else: 5},
		{Op: api.End, A: 1},
		{Op: api.Skip, Then: 4},
		{Op: api.Skip, Then: 3},
		{Op: api.Skip, Then: 3},
		{Op: api.Skip, Then: 4},
		{Op: api.Skip, Then: 4},
	}})
}

func TestD2SplitLetsBe(t *testing.T) {
	for _, nodes := range [][]api.Node{
		{{Op: api.End}},
		// One node leads there by both its ways: it is one in Ahead.
		{{Op: api.If, Then: 1, Else: 1}, {Op: api.End}},
		{{Op: api.Skip, Then: 1}, {Op: api.Skip, Then: 1}},
		{{Op: api.If, Then: 1, Else: 2}, {Op: api.Skip, Then: 3}, {Op: api.Skip, Then: 3}, {Op: api.End}},
	} {
		want := api.Prog{Regs: 1, Nodes: nodes}
		p, e := graph.Split(want)
		mustBe(t, "nothing to be split", p, e, want)
	}
}

// splitOf is what the chapter says, word by word, by the calls of chapter 1.
func splitOf(t *testing.T, p api.Prog) api.Prog {
	several := func(m int) bool {
		l, e := prog.Ahead(p, m)
		if e != api.OK {
			t.Fatalf("%v: %d", p, e)
		}
		return len(l) >= 2
	}
	q := api.Prog{Regs: p.Regs, Nodes: slices.Clone(p.Nodes)}
	put := func(m int) int {
		q.Nodes = append(q.Nodes, api.Node{Op: api.Skip, Then: m})
		return len(q.Nodes) - 1
	}
	for n, x := range p.Nodes {
		if x.Op == api.Skip || x.Op == api.End {
			continue
		}
		y := x
		if several(x.Then) {
			y.Then = put(x.Then)
		}
		if x.Op == api.If && x.Else == x.Then {
			y.Else = y.Then
		} else if x.Op == api.If && several(x.Else) {
			y.Else = put(x.Else)
		}
		q.Nodes[n] = y
	}
	return q
}

func TestD2SplitOfDrawnPrograms(t *testing.T) {
	r := draw(3)
	for range 500 {
		p := drawn(&r, 2+r.below(16))
		q, e := graph.Split(p)
		mustBe(t, "split", q, e, splitOf(t, p))
		again, e := graph.Split(q)
		mustBe(t, "split once more", again, e, q)
	}
}

// fan has as many nodes that lead to the last one, which is an End, and Skips that do too.
func fan(leads, skips int) api.Prog {
	last := leads + skips
	p := api.Prog{Regs: 1}
	for range leads {
		p.Nodes = append(p.Nodes, api.Node{Op: api.Out, Then: last})
	}
	for range skips {
		p.Nodes = append(p.Nodes, api.Node{Op: api.Skip, Then: last})
	}
	p.Nodes = append(p.Nodes, api.Node{Op: api.End})
	return p
}

func TestD2SplitMany(t *testing.T) {
	for _, c := range []struct {
		p    api.Prog
		want int // nodes; 0: too many
	}{
		{fan(127, 0), 255}, {fan(127, 1), 256}, {fan(127, 2), 0}, {fan(128, 0), 0},
		{fan(255, 0), 0}, {fan(0, 255), 256}, {fan(1, 254), 0}, {fan(1, 253), 256},
	} {
		p, e := graph.Split(c.p)
		switch {
		case c.want > 0:
			mustBe(t, "just as many as there may be", p, e, splitOf(t, c.p))
			if len(p.Nodes) != c.want {
				t.Errorf("%d nodes, not %d", len(p.Nodes), c.want)
			}
		case e != api.ErrMany || !reflect.DeepEqual(p, api.Prog{}):
			t.Errorf("%d nodes: %v %d", len(c.p.Nodes), p, e)
		}
	}
}

func mustRun(t *testing.T, p api.Prog, in []int, fuel int) api.Result {
	t.Helper()
	r, e := run.Run(p, in, fuel)
	if e != api.OK {
		t.Fatalf("%v: %d", p, e)
	}
	return r
}

func TestD3TrimmedItDoesWhatItDid(t *testing.T) {
	r := draw(4)
	for range 300 {
		p := drawn(&r, 2+r.below(16))
		q, _ := graph.Trim(p)
		in := []int{r.below(3), r.below(5) - 2, r.below(2)}
		for fuel := range 40 {
			if x, y := mustRun(t, p, in, fuel), mustRun(t, q, in, fuel); !reflect.DeepEqual(x, y) {
				t.Fatalf("%v: %v, and trimmed %v", p, x, y)
			}
		}
	}
}

func TestD3SplitItDoesWhatItDid(t *testing.T) {
	r := draw(5)
	for range 300 {
		p := drawn(&r, 2+r.below(16))
		q, _ := graph.Split(p)
		in := []int{r.below(3), r.below(5) - 2, r.below(2)}
		for fuel := range 40 {
			x := mustRun(t, p, in, fuel)
			more := 0 // Skips, and steps
			for more <= x.Steps && !alike(x, mustRun(t, q, in, fuel+more), more) {
				more++
			}
			if more > x.Steps {
				t.Fatalf("%v by %d steps: %v, and split nothing like it", p, fuel, x)
			}
		}
	}
}

// alike: the same was told, answered and reckoned, by so many steps more.
func alike(x, y api.Result, more int) bool {
	x.Steps += more
	return reflect.DeepEqual(x, y)
}

// wrong has programs with errors that Check tells.
func wrong() map[api.Errno][]api.Prog {
	many := api.Prog{Regs: 1, Nodes: make([]api.Node, api.MaxNodes+1)}
	return map[api.Errno][]api.Prog{
		api.ErrMany:  {{}, {Regs: 1}, {Nodes: []api.Node{{Op: api.End}}}, {Regs: 65, Nodes: []api.Node{{Op: api.End}}}, many},
		api.ErrKind:  {{Regs: 1, Nodes: []api.Node{{Op: 13}}}, {Regs: 1, Nodes: []api.Node{{Op: api.End, A: 5}, {Op: -1}}}},
		api.ErrRange: {{Regs: 1, Nodes: []api.Node{{Op: api.Skip}}}, {Regs: 1, Nodes: []api.Node{{Op: api.Skip, Then: math.MinInt}}}, {Regs: 1, Nodes: []api.Node{{Op: api.If, Then: 1, Else: 2}, {Op: api.End, D: 1}}}},
		api.ErrForm:  {{Regs: 1, Nodes: []api.Node{{Op: api.End, Then: 1}}}, {Regs: 1, Nodes: []api.Node{{Op: api.End}, {Op: api.Out, Then: 1, Else: 1}}}},
	}
}

func TestP1Errors(t *testing.T) {
	for want, l := range wrong() {
		for _, p := range l {
			if x, e := graph.Reach(p); e != want || x != nil {
				t.Errorf("Reach %v: %v %d, not %d", p, x, e, want)
			}
			if x, e := graph.Trim(p); e != want || !reflect.DeepEqual(x, api.Prog{}) {
				t.Errorf("Trim %v: %v %d, not %d", p, x, e, want)
			}
			if x, e := graph.Split(p); e != want || !reflect.DeepEqual(x, api.Prog{}) {
				t.Errorf("Split %v: %v %d, not %d", p, x, e, want)
			}
		}
	}
}

func TestP2OnlyReadAndNew(t *testing.T) {
	room := append(small().Nodes, make([]api.Node, 20)...)
	for i := range room[7:] {
		room[7+i] = api.Node{Op: 99, D: i}
	}
	kept := slices.Clone(room)
	p := api.Prog{Regs: 3, Nodes: room[:7]}
	reach, _ := graph.Reach(p)
	reach[0] = false
	for _, call := range []func(api.Prog) (api.Prog, api.Errno){graph.Trim, graph.Split} {
		q, _ := call(p)
		was := slices.Clone(q.Nodes)
		for i := range q.Nodes {
			q.Nodes[i] = api.Node{Op: -5}
		}
		_ = append(q.Nodes, api.Node{Op: -6})
		if !slices.Equal(room, kept) {
			t.Fatalf("what was handed in is changed: %v", room)
		}
		if again, _ := call(p); !slices.Equal(again.Nodes, was) {
			t.Errorf("an answer is kept: %v", again)
		}
	}
	if again, _ := graph.Reach(p); !again[0] {
		t.Error("an answer of Reach is kept")
	}
}

func TestP3NothingIsKept(t *testing.T) {
	p := small()
	first, _ := graph.Split(p)
	p.Nodes[2].Else = 6
	other, _ := graph.Split(p)
	p.Nodes[2].Else = 5
	again, _ := graph.Split(p)
	if reflect.DeepEqual(first, other) || !reflect.DeepEqual(first, again) {
		t.Errorf("%v, %v, %v", first, other, again)
	}
}

func TestP4GreatestProgram(t *testing.T) {
	p := api.Prog{Regs: api.MaxRegs, Nodes: make([]api.Node, api.MaxNodes)}
	for i := range p.Nodes { // from the last node on down to the first
		p.Nodes[i] = api.Node{Op: api.Skip, Then: i - 1}
	}
	p.Nodes[0].Then = api.MaxNodes - 1
	p.Nodes[1] = api.Node{Op: api.End, A: api.MaxRegs - 1}
	q, e := graph.Trim(p)
	mustBe(t, "all are come to", q, e, p)
	q, e = graph.Split(p)
	mustBe(t, "one behind the other", q, e, p)
	p.Nodes[0].Then = 1
	q, e = graph.Trim(p)
	mustBe(t, "two are come to", q, e, api.Prog{Regs: api.MaxRegs, Nodes: p.Nodes[:2]})
}
