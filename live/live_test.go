package live_test

import (
	"math"
	"reflect"
	"slices"
	"testing"

	"hoistway/api"
	"hoistway/live"
	"hoistway/prog"
	"hoistway/run"
)

// small is example 1 of the document.
func small() api.Prog {
	return api.Prog{Regs: 3, Nodes: []api.Node{
		{Op: api.In, D: 0, Then: 1},
		{Op: api.In, D: 1, Then: 2},
		{Op: api.If, A: 0, Then: 3, Else: 5},
		{Op: api.Add, D: 2, A: 0, B: 1, Then: 4},
		{Op: api.Out, A: 2, Then: 5},
		{Op: api.Add, D: 2, A: 0, B: 1, Then: 6},
		{Op: api.End, A: 2},
	}}
}

// draw: numbers that are the same each time.
type draw uint64

func (d *draw) below(n int) int {
	*d = *d*6364136223846793005 + 1442695040888963407
	return int(uint64(*d) >> 33 % uint64(n))
}

// drawn is a right program of n nodes, of all operations, that leads anywhere.
func drawn(r *draw, n int) api.Prog {
	p := api.Prog{Regs: 1 + r.below(5)}
	reg := func() int { return r.below(p.Regs) }
	for i := range n - 1 {
		x := api.Node{Op: r.below(api.End), Then: i + 1}
		if r.below(4) == 0 {
			x.Then = 1 + r.below(n-1)
		}
		switch x.Op {
		case api.Skip:
		case api.Set:
			x.D, x.A = reg(), r.below(5)-2
		case api.Copy:
			x.D, x.A = reg(), reg()
		case api.In:
			x.D = reg()
		case api.Out:
			x.A = reg()
		case api.If:
			x.A, x.Else = reg(), 1+r.below(n-1)
		default:
			x.D, x.A, x.B = reg(), reg(), reg()
		}
		p.Nodes = append(p.Nodes, x)
	}
	p.Nodes = append(p.Nodes, api.Node{Op: api.End, A: reg()})
	return p
}

func mustLive(t *testing.T, what string, p api.Prog, want [][]int) {
	t.Helper()
	l, e := live.Live(p)
	if e != api.OK || !slices.EqualFunc(l, want, slices.Equal[[]int]) {
		t.Errorf("%s: it is\n%v %d\nand must be\n%v", what, l, e, want)
	}
}

// mustBe holds a program, and that it is right, against the one that is asked for.
func mustBe(t *testing.T, what string, p api.Prog, e api.Errno, want api.Prog) {
	t.Helper()
	if e != api.OK || p.Regs != want.Regs || !slices.Equal(p.Nodes, want.Nodes) {
		t.Errorf("%s: it is\n%v %d\nand must be\n%v", what, p, e, want)
	}
	if e := prog.Check(p); e != api.OK {
		t.Errorf("%s: no right program: %d", what, e)
	}
}

func TestH1Example(t *testing.T) {
	mustLive(t, "example 1", small(), [][]int{{}, {0}, {0, 1}, {0, 1}, {0, 1, 2}, {0, 1}, {2}})
}

func TestH1WhatEachOperationUsesAndSets(t *testing.T) {
	// Behind each node registers 0 and 3 are live.
	for _, c := range []struct {
		x    api.Node
		want []int
	}{
		{api.Node{Op: api.Skip}, []int{0, 3}},
		{api.Node{Op: api.Set, D: 3, A: 1}, []int{0}}, // its A is a number
		{api.Node{Op: api.Set, D: 1, A: math.MinInt}, []int{0, 3}},
		{api.Node{Op: api.Set, D: 1, A: math.MaxInt}, []int{0, 3}},
		{api.Node{Op: api.Copy, D: 3, A: 1}, []int{0, 1}},
		{api.Node{Op: api.Copy, D: 3, A: 3}, []int{0, 3}}, // it uses first
		{api.Node{Op: api.In, D: 0}, []int{3}},
		{api.Node{Op: api.Out, A: 2}, []int{0, 2, 3}},
		{api.Node{Op: api.If, A: 1, Else: 1}, []int{0, 1, 3}},
		{api.Node{Op: api.Add, D: 3, A: 1, B: 2}, []int{0, 1, 2}},
		{api.Node{Op: api.Sub, D: 0, A: 2, B: 2}, []int{2, 3}},
		{api.Node{Op: api.Mul, D: 3, A: 3, B: 1}, []int{0, 1, 3}},
		{api.Node{Op: api.And, D: 3, A: 1, B: 3}, []int{0, 1, 3}},
		{api.Node{Op: api.Xor, D: 1, A: 1, B: 2}, []int{0, 1, 2, 3}},
		{api.Node{Op: api.Less, D: 2, A: 0, B: 1}, []int{0, 1, 3}},
	} {
		c.x.Then = 1
		mustLive(t, "ahead of both", api.Prog{Regs: 4, Nodes: []api.Node{c.x, {Op: api.Out, A: 3, Then: 2}, {Op: api.End, A: 0}}}, [][]int{c.want, {0, 3}, {0}})
	}
}

func TestH1Edges(t *testing.T) {
	mustLive(t, "an End alone", api.Prog{Regs: 64, Nodes: []api.Node{{Op: api.End, A: 63}}}, [][]int{{63}})
	mustLive(t, "for ever round", api.Prog{Regs: 2, Nodes: []api.Node{{Op: api.Skip, Then: 1}, {Op: api.Skip, Then: 1}}}, [][]int{{}, {}})
	mustLive(t, "round a ring, and out of it", api.Prog{Regs: 3, Nodes: []api.Node{
		{Op: api.If, A: 0, Then: 2, Else: 1},
		{Op: api.End, A: 1},
		{Op: api.Out, A: 2, Then: 3},
		{Op: api.In, D: 0, Then: 4},
		{Op: api.If, A: 0, Then: 2, Else: 1},
	}}, [][]int{{0, 1, 2}, {1}, {1, 2}, {1, 2}, {0, 1, 2}})
	mustLive(t, "where nobody comes", api.Prog{Regs: 2, Nodes: []api.Node{{Op: api.End, A: 0}, {Op: api.Out, A: 1, Then: 2}, {Op: api.End, A: 0}}}, [][]int{{0}, {0, 1}, {0}})
}

// isLive goes the ways from a node on, as H1 says it.
func isLive(p api.Prog, n, r int) bool {
	seen := make([]bool, len(p.Nodes))
	come := []int{n}
	for len(come) > 0 {
		m := come[0]
		come = come[1:]
		if seen[m] {
			continue
		}
		seen[m] = true
		x := p.Nodes[m]
		reckons := x.Op >= api.Add && x.Op <= api.Less
		usesA := x.Op == api.Copy || reckons || x.Op >= api.Out
		if usesA && x.A == r || reckons && x.B == r {
			return true
		}
		if x.Op >= api.Set && x.Op <= api.In && x.D == r {
			continue
		}
		l, _ := prog.Next(p, m)
		come = append(come, l...)
	}
	return false
}

func TestH1OfDrawnPrograms(t *testing.T) {
	r := draw(1)
	for range 1000 {
		p := drawn(&r, 2+r.below(18))
		want := make([][]int, len(p.Nodes))
		for n := range p.Nodes {
			for reg := range p.Regs {
				if isLive(p, n, reg) {
					want[n] = append(want[n], reg)
				}
			}
		}
		mustLive(t, "drawn", p, want)
	}
}

func TestH2Example(t *testing.T) {
	p, e := live.Dead(small())
	mustBe(t, "nothing is dead", p, e, small())
	silent := small()
	silent.Nodes[4] = api.Node{Op: api.Skip, Then: 5}
	want := silent
	want.Nodes = slices.Clone(silent.Nodes)
	want.Nodes[3] = api.Node{Op: api.Skip, Then: 4}
	p, e = live.Dead(silent)
	mustBe(t, "if nothing is told, the first sum is dead", p, e, want)
}

func TestH2FromSetToLess(t *testing.T) {
	for op := api.Skip; op <= api.Out; op++ {
		x := api.Node{Op: op, Then: 1}
		if op >= api.Set && op <= api.In {
			x.D = 1
		}
		p := api.Prog{Regs: 2, Nodes: []api.Node{x, {Op: api.End, A: 0}}}
		want := api.Prog{Regs: 2, Nodes: slices.Clone(p.Nodes)}
		if op >= api.Set && op <= api.Less {
			want.Nodes[0] = api.Node{Op: api.Skip, Then: 1}
		}
		q, e := live.Dead(p)
		mustBe(t, "register 1 is used by nobody", q, e, want)
		p.Nodes[1].A = 1
		q, e = live.Dead(p)
		mustBe(t, "register 1 is used", q, e, p)
	}
	q, e := live.Dead(api.Prog{Regs: 9, Nodes: []api.Node{{Op: api.Set, D: 8, A: math.MinInt, Then: 1}, {Op: api.Less, D: 8, A: 7, B: 6, Then: 2}, {Op: api.End, A: 0}}})
	mustBe(t, "no field is left but Then", q, e, api.Prog{Regs: 9, Nodes: []api.Node{{Op: api.Skip, Then: 1}, {Op: api.Skip, Then: 2}, {Op: api.End, A: 0}}})
}

func TestH2AgainAndAgain(t *testing.T) {
	p, e := live.Dead(api.Prog{Regs: 5, Nodes: []api.Node{
		{Op: api.Set, D: 1, A: 7, Then: 1},
		{Op: api.Copy, D: 2, A: 1, Then: 2},
		{Op: api.Add, D: 3, A: 1, B: 2, Then: 3},
		{Op: api.In, D: 4, Then: 4},
		{Op: api.Sub, D: 2, A: 3, B: 4, Then: 5},
		{Op: api.End, A: 0},
	}})
	mustBe(t, "one hangs on the other", p, e, api.Prog{Regs: 5, Nodes: []api.Node{
		{Op: api.Skip, Then: 1},
		{Op: api.Skip, Then: 2},
		{Op: api.Skip, Then: 3},
		{Op: api.In, D: 4, Then: 4}, // what comes in does so all the same
		{Op: api.Skip, Then: 5},
		{Op: api.End, A: 0},
	}})
}

func TestH2LetsBe(t *testing.T) {
	for what, nodes := range map[string][]api.Node{
		"what uses itself round a ring": {{Op: api.Skip, Then: 1}, {Op: api.Add, D: 0, A: 0, B: 0, Then: 2}, {Op: api.If, A: 1, Then: 1, Else: 3}, {Op: api.End, A: 1}},
		"what one way alone uses":       {{Op: api.Set, D: 0, A: 5, Then: 1}, {Op: api.If, A: 1, Then: 2, Else: 3}, {Op: api.End, A: 0}, {Op: api.End, A: 1}},
		"what is used by nobody else":   {{Op: api.Copy, D: 0, A: 0, Then: 1}, {Op: api.End, A: 0}},
		"what nobody comes to":          {{Op: api.End}, {Op: api.Set, D: 1, A: 5, Then: 2}, {Op: api.End, A: 1}},
	} {
		want := api.Prog{Regs: 2, Nodes: nodes}
		p, e := live.Dead(want)
		mustBe(t, what, p, e, want)
	}
}

// rid is what H2 says, one node at a time, by the calls alone.
func rid(t *testing.T, p api.Prog) api.Prog {
	t.Helper()
	q := api.Prog{Regs: p.Regs, Nodes: slices.Clone(p.Nodes)}
	for {
		was := slices.Clone(q.Nodes)
		for n, x := range q.Nodes {
			l, e := live.Live(q)
			if e != api.OK {
				t.Fatalf("%v: %d", q, e)
			}
			if x.Op >= api.Set && x.Op <= api.Less && !slices.Contains(l[x.Then], x.D) {
				q.Nodes[n] = api.Node{Op: api.Skip, Then: x.Then}
			}
		}
		if slices.Equal(was, q.Nodes) {
			return q
		}
	}
}

func TestH2OfDrawnPrograms(t *testing.T) {
	r := draw(2)
	changed := 0
	for range 1000 {
		p := drawn(&r, 2+r.below(18))
		want := rid(t, p)
		q, e := live.Dead(p)
		mustBe(t, "rid of what is dead", q, e, want)
		again, e := live.Dead(q)
		mustBe(t, "once more", again, e, want)
		if !slices.Equal(p.Nodes, q.Nodes) {
			changed++
		}
	}
	if changed < 300 {
		t.Errorf("hardly tried: %d", changed)
	}
}

func mustRun(t *testing.T, p api.Prog, in []int, fuel int) api.Result {
	t.Helper()
	r, e := run.Run(p, in, fuel)
	if e != api.OK {
		t.Fatalf("%v: %d", p, e)
	}
	return r
}

func TestH3ItDoesWhatItDid(t *testing.T) {
	r := draw(3)
	fewer := 0
	for range 500 {
		p := drawn(&r, 2+r.below(18))
		q, _ := live.Dead(p)
		in := []int{r.below(3), r.below(5) - 2, r.below(2)}
		for fuel := range 40 {
			x, y := mustRun(t, p, in, fuel), mustRun(t, q, in, fuel)
			for _, c := range y.Counts {
				if c.N > run.Times(x, c.Term) {
					t.Fatalf("%v: %v, and rid of what is dead %v", p, x.Counts, y.Counts)
				}
			}
			if len(y.Counts) < len(x.Counts) {
				fewer++
			}
			x.Counts, y.Counts = nil, nil
			if !reflect.DeepEqual(x, y) {
				t.Fatalf("%v: %v, and rid of what is dead %v", p, x, y)
			}
		}
	}
	if fewer < 100 {
		t.Errorf("hardly tried: %d", fewer)
	}
}

func TestP1Errors(t *testing.T) {
	for want, l := range map[api.Errno][]api.Prog{
		api.ErrMany:  {{}, {Regs: 1}, {Nodes: []api.Node{{Op: api.End}}}, {Regs: 65, Nodes: []api.Node{{Op: api.End}}}, {Regs: 1, Nodes: make([]api.Node, 257)}},
		api.ErrKind:  {{Regs: 1, Nodes: []api.Node{{Op: 13}}}, {Regs: 1, Nodes: []api.Node{{Op: api.End, A: 5}, {Op: -1}}}},
		api.ErrRange: {{Regs: 1, Nodes: []api.Node{{Op: api.Skip}}}, {Regs: 1, Nodes: []api.Node{{Op: api.End, A: math.MinInt}}}, {Regs: 1, Nodes: []api.Node{{Op: api.In, D: 1, Then: 1}, {Op: api.End, D: 1}}}},
		api.ErrForm:  {{Regs: 1, Nodes: []api.Node{{Op: api.End, Then: 1}}}},
	} {
		for _, p := range l {
			if x, e := live.Live(p); e != want || x != nil {
				t.Errorf("Live %v: %v %d, not %d", p, x, e, want)
			}
			if x, e := live.Dead(p); e != want || !reflect.DeepEqual(x, api.Prog{}) {
				t.Errorf("Dead %v: %v %d, not %d", p, x, e, want)
			}
		}
	}
}

func TestP1WhateverIsHandedIn(t *testing.T) {
	r := draw(4)
	odd := []int{math.MinInt, -1, 0, 0, 1, 1, 2, 3, 12, 13, 64, 256, math.MaxInt}
	pick := func() int { return odd[r.below(len(odd))] }
	for range 5000 {
		p := api.Prog{Regs: pick()}
		for range r.below(4) {
			p.Nodes = append(p.Nodes, api.Node{Op: r.below(14), D: pick(), A: pick(), B: pick(), Then: pick(), Else: pick()})
		}
		l, e := live.Live(p)
		q, f := live.Dead(p)
		if c := prog.Check(p); e != c || f != c || (c == api.OK) != (len(l) > 0) || (c == api.OK) != (len(q.Nodes) > 0) {
			t.Errorf("%v: %v %d, %v %d", p, l, e, q, f)
		}
	}
}

func TestP2OnlyReadAndNew(t *testing.T) {
	silent := small().Nodes
	silent[4] = api.Node{Op: api.Skip, Then: 5}
	for _, nodes := range [][]api.Node{small().Nodes, silent} {
		room := append(nodes, api.Node{Op: 99}, api.Node{Op: 98})
		kept := slices.Clone(room)
		p := api.Prog{Regs: 3, Nodes: room[:7]}
		l, _ := live.Live(p)
		q, _ := live.Dead(p)
		lWas, _ := live.Live(p)
		qWas, _ := live.Dead(p)
		for n := range l {
			for i := range l[n] {
				l[n][i] = -1
			}
			_ = append(l[n], -2, -2)
			for m := n + 1; m < len(l); m++ {
				if !slices.Equal(l[m], lWas[m]) {
					t.Errorf("the lists of nodes %d and %d share memory", n, m)
				}
			}
		}
		for i := range q.Nodes {
			q.Nodes[i] = api.Node{Op: -5}
		}
		_ = append(q.Nodes, api.Node{Op: -6})
		if !slices.Equal(room, kept) {
			t.Errorf("what was handed in is changed: %v", room)
		}
		mustLive(t, "once more", p, lWas)
		again, e := live.Dead(p)
		mustBe(t, "once more", again, e, qWas)
	}
}

func TestP3NothingIsKept(t *testing.T) {
	p := small()
	for range 3 {
		p.Nodes[6].A = 0
		mustLive(t, "the first number is answered", p, [][]int{{}, {0}, {0, 1}, {0, 1}, {0, 1, 2}, {0, 1}, {0}})
		q, e := live.Dead(p)
		if e != api.OK || q.Nodes[5].Op != api.Skip {
			t.Errorf("%v %d", q, e)
		}
		p.Nodes[6].A = 2
		mustLive(t, "the sum is answered", p, [][]int{{}, {0}, {0, 1}, {0, 1}, {0, 1, 2}, {0, 1}, {2}})
		q, e = live.Dead(p)
		mustBe(t, "the sum is answered", q, e, p)
	}
}

func TestP4GreatestProgram(t *testing.T) {
	// From the last node on down to the first, each node uses what the one ahead of it sets; so they die one by one.
	p := api.Prog{Regs: api.MaxRegs, Nodes: make([]api.Node, api.MaxNodes)}
	want := api.Prog{Regs: api.MaxRegs, Nodes: make([]api.Node, api.MaxNodes)}
	for i := range p.Nodes {
		p.Nodes[i] = api.Node{Op: api.Copy, D: 62 + i%2, A: 63 - i%2, Then: i - 1}
		want.Nodes[i] = api.Node{Op: api.Skip, Then: i - 1}
	}
	p.Nodes[0].Then, want.Nodes[0].Then = 255, 255
	p.Nodes[1], want.Nodes[1] = api.Node{Op: api.End}, api.Node{Op: api.End}
	q, e := live.Dead(p)
	mustBe(t, "all die", q, e, want)

	// All registers are live at the first node, and one fewer at each further one.
	p.Nodes = nil
	var lists [][]int
	for r := range api.MaxRegs {
		p.Nodes = append(p.Nodes, api.Node{Op: api.Out, A: r, Then: r + 1})
		lists = append(lists, nil)
		for s := r; s < api.MaxRegs; s++ {
			lists[r] = append(lists[r], s)
		}
	}
	p.Nodes = append(p.Nodes, api.Node{Op: api.End, A: 63})
	mustLive(t, "all registers", p, append(lists, []int{63}))
}
