package run_test

import (
	"math"
	"reflect"
	"slices"
	"testing"

	"hoistway/api"
	"hoistway/run"
)

// small is example 1 of the document.
func small() api.Prog {
	return api.Prog{Regs: 3, Nodes: []api.Node{
		{Op: api.In, D: 0, Then: 1},
		{Op: api.In, D: 1, Then: 2},
		{Op: api.If, A: 0, Then: 3, Else: 5},
		{Op: api.Add, D: 2, A: 0, B: 1, Then: 4},
		{Op: api.Out, A: 2, Then: 5},
		{Op: api.Add, D: 2, A: 0, B: 1, Then: 6},
		{Op: api.End, A: 2},
	}}
}

var sum = api.Term{Op: api.Add, A: 0, B: 1}

// same holds results against each other, an empty list being as good as nil.
func same(x, y api.Result) bool {
	lists := slices.Equal(x.Out, y.Out) && slices.Equal(x.Counts, y.Counts)
	return lists && x.Ret == y.Ret && x.Ended == y.Ended && x.Steps == y.Steps
}

func mustRun(t *testing.T, p api.Prog, in []int, fuel int, want api.Result) {
	t.Helper()
	if r, e := run.Run(p, in, fuel); e != api.OK || !same(r, want) {
		t.Errorf("%v, %d steps: %v %d, not %v", in, fuel, r, e, want)
	}
}

func TestC1Example(t *testing.T) {
	mustRun(t, small(), []int{4, 5}, 99, api.Result{Out: []int{9}, Ret: 9, Ended: true, Steps: 7, Counts: []api.Count{{Term: sum, N: 2}}})
	mustRun(t, small(), []int{0, 5}, 99, api.Result{Ret: 5, Ended: true, Steps: 5, Counts: []api.Count{{Term: sum, N: 1}}})
}

func TestC1FuelStepByStep(t *testing.T) {
	once, twice := []api.Count{{Term: sum, N: 1}}, []api.Count{{Term: sum, N: 2}}
	for fuel, want := range []api.Result{
		{}, {Steps: 1}, {Steps: 2}, {Steps: 3},
		{Steps: 4, Counts: once},
		{Steps: 5, Counts: once, Out: []int{9}},
		{Steps: 6, Counts: twice, Out: []int{9}},
		{Steps: 7, Counts: twice, Out: []int{9}, Ret: 9, Ended: true},
		{Steps: 7, Counts: twice, Out: []int{9}, Ret: 9, Ended: true},
	} {
		mustRun(t, small(), []int{4, 5, 6}, fuel, want)
	}
}

func TestC1NumbersThatComeIn(t *testing.T) {
	p := api.Prog{Regs: 2, Nodes: []api.Node{
		{Op: api.Set, D: 1, A: 8, Then: 1},
		{Op: api.In, D: 1, Then: 2},
		{Op: api.Out, A: 1, Then: 1},
	}}
	mustRun(t, p, nil, 5, api.Result{Out: []int{0, 0}, Steps: 5})
	mustRun(t, p, []int{}, 5, api.Result{Out: []int{0, 0}, Steps: 5})
	mustRun(t, p, []int{-3, 7}, 9, api.Result{Out: []int{-3, 7, 0, 0}, Steps: 9})
}

// reckoned tells what comes of a term with two numbers.
func reckoned(t *testing.T, op, a, b int) int {
	t.Helper()
	p := api.Prog{Regs: 5, Nodes: []api.Node{
		{Op: api.In, D: 3, Then: 1},
		{Op: api.In, D: 1, Then: 2},
		{Op: op, D: 4, A: 3, B: 1, Then: 3},
		{Op: api.End, A: 4},
	}}
	r, e := run.Run(p, []int{a, b}, 4)
	want := []api.Count{{Term: api.Term{Op: op, A: 3, B: 1}, N: 1}}
	if e != api.OK || !r.Ended || r.Steps != 4 || !slices.Equal(r.Counts, want) {
		t.Errorf("Op %d: %v %d", op, r, e)
	}
	return r.Ret
}

func TestC1Operations(t *testing.T) {
	for _, c := range []struct{ op, a, b, want int }{
		{api.Add, 4, 5, 9}, {api.Add, -4, 3, -1}, {api.Add, math.MaxInt, 1, math.MinInt}, {api.Add, math.MinInt, -1, math.MaxInt},
		{api.Sub, 4, 5, -1}, {api.Sub, 5, 4, 1}, {api.Sub, math.MinInt, 1, math.MaxInt}, {api.Sub, 0, math.MinInt, math.MinInt},
		{api.Mul, 6, -7, -42}, {api.Mul, math.MaxInt, 2, -2}, {api.Mul, math.MinInt, -1, math.MinInt}, {api.Mul, 1 << 32, 1 << 32, 0},
		{api.And, 12, 10, 8}, {api.And, -1, 7, 7}, {api.And, math.MinInt, -1, math.MinInt},
		{api.Xor, 12, 10, 6}, {api.Xor, -1, 7, -8}, {api.Xor, 5, 5, 0},
		{api.Less, 1, 2, 1}, {api.Less, 2, 1, 0}, {api.Less, 2, 2, 0}, {api.Less, -1, 0, 1}, {api.Less, math.MinInt, math.MaxInt, 1}, {api.Less, math.MaxInt, math.MinInt, 0},
	} {
		if got := reckoned(t, c.op, c.a, c.b); got != c.want {
			t.Errorf("Op %d of %d and %d: %d, not %d", c.op, c.a, c.b, got, c.want)
		}
	}
}

func TestC1OtherNodes(t *testing.T) {
	p := api.Prog{Regs: 3, Nodes: []api.Node{
		{Op: api.Out, A: 2, Then: 1}, // all registers are 0
		{Op: api.Set, D: 0, A: math.MinInt, Then: 3},
		{Op: api.End, A: 1},
		{Op: api.Copy, D: 2, A: 0, Then: 4},
		{Op: api.Skip, Then: 5},
		{Op: api.Set, D: 0, A: 2, Then: 6},
		{Op: api.If, A: 2, Then: 7, Else: 2},
		{Op: api.Out, A: 0, Then: 8},
		{Op: api.If, A: 1, Then: 2, Else: 9},
		{Op: api.End, A: 2},
	}}
	mustRun(t, p, nil, 100, api.Result{Out: []int{0, 2}, Ret: math.MinInt, Ended: true, Steps: 9})
	mustRun(t, api.Prog{Regs: 1, Nodes: []api.Node{{Op: api.End}}}, nil, 1, api.Result{Ended: true, Steps: 1})
}

func TestC1SetsAndUsesTheSame(t *testing.T) {
	p := api.Prog{Regs: 1, Nodes: []api.Node{
		{Op: api.In, D: 0, Then: 1},
		{Op: api.Add, D: 0, A: 0, B: 0, Then: 2},
		{Op: api.Mul, D: 0, A: 0, B: 0, Then: 3},
		{Op: api.Copy, D: 0, A: 0, Then: 4},
		{Op: api.End, A: 0},
	}}
	mustRun(t, p, []int{3}, 5, api.Result{Ret: 36, Ended: true, Steps: 5, Counts: []api.Count{{Term: api.Term{Op: api.Add}, N: 1}, {Term: api.Term{Op: api.Mul}, N: 1}}})
}

func TestC1CountsRise(t *testing.T) {
	p := api.Prog{Regs: 12}
	want := []api.Count{}
	for op := api.Less; op >= api.Add; op-- {
		for _, ab := range [][2]int{{10, 0}, {2, 11}, {2, 3}, {0, 9}} {
			p.Nodes = append(p.Nodes, api.Node{Op: op, D: 1, A: ab[0], B: ab[1], Then: len(p.Nodes) + 1})
		}
	}
	p.Nodes = append(p.Nodes, api.Node{Op: api.Add, D: 4, A: 2, B: 3, Then: len(p.Nodes) + 1}, api.Node{Op: api.Skip, Then: len(p.Nodes) + 1})
	for op := api.Add; op <= api.Less; op++ {
		for _, ab := range [][2]int{{0, 9}, {2, 3}, {2, 11}, {10, 0}} {
			want = append(want, api.Count{Term: api.Term{Op: op, A: ab[0], B: ab[1]}, N: 1})
		}
	}
	want[1].N = 2
	mustRun(t, p, nil, 25, api.Result{Steps: 25, Counts: want})
}

func TestC1Errors(t *testing.T) {
	bad := func(turn func(p *api.Prog)) api.Prog {
		p := small()
		turn(&p)
		return p
	}
	none := func(p *api.Prog) {}
	for i, c := range []struct {
		p    api.Prog
		in   int
		fuel int
		want api.Errno
	}{
		{bad(none), api.MaxIn, api.MaxFuel, api.OK},
		{bad(none), api.MaxIn + 1, 1, api.ErrMany},
		{bad(none), 0, -1, api.ErrRange},
		{bad(none), 0, api.MaxFuel + 1, api.ErrRange},
		{bad(none), 0, math.MinInt, api.ErrRange},
		{bad(none), 0, math.MaxInt, api.ErrRange},
		{bad(none), api.MaxIn + 1, -1, api.ErrMany},
		{bad(func(p *api.Prog) { p.Regs = 0 }), 0, -1, api.ErrMany},
		{bad(func(p *api.Prog) { p.Nodes = nil }), 0, -1, api.ErrMany},
		{bad(func(p *api.Prog) { p.Nodes[0].Op = 13 }), api.MaxIn + 1, -1, api.ErrKind},
		{bad(func(p *api.Prog) { p.Nodes[0].Then = 0 }), api.MaxIn + 1, -1, api.ErrRange},
		{bad(func(p *api.Prog) { p.Nodes[6].B = 1 }), api.MaxIn + 1, -1, api.ErrForm},
		{bad(func(p *api.Prog) { p.Nodes[6].B = 1 }), 0, 0, api.ErrForm},
	} {
		r, e := run.Run(c.p, make([]int, c.in), c.fuel)
		if e != c.want {
			t.Errorf("%d: %d, not %d", i, e, c.want)
		}
		if e != api.OK && !reflect.DeepEqual(r, api.Result{}) {
			t.Errorf("%d: %v beside an error", i, r)
		}
	}
}

func TestC2Times(t *testing.T) {
	r, _ := run.Run(small(), []int{4, 5}, 99)
	other := api.Term{Op: api.Sub, A: 0, B: 1}
	for _, c := range []struct {
		r    api.Result
		t    api.Term
		want int
	}{
		{r, sum, 2}, {r, other, 0}, {r, api.Term{Op: api.Add, A: 1, B: 0}, 0}, {r, api.Term{Op: -9, A: math.MaxInt}, 0},
		{api.Result{}, sum, 0}, {api.Result{}, api.Term{}, 0},
		{api.Result{Counts: []api.Count{{Term: other, N: 3}, {Term: sum, N: -4}, {Term: sum, N: 5}}}, sum, -4},
		{api.Result{Counts: []api.Count{{Term: other, N: 3}, {Term: sum, N: 0}, {Term: sum, N: 5}}}, sum, 0},
		{api.Result{Counts: []api.Count{{Term: api.Term{Op: 77}, N: 6}}}, api.Term{Op: 77}, 6},
	} {
		if n := run.Times(c.r, c.t); n != c.want {
			t.Errorf("%v of %v: %d, not %d", c.t, c.r, n, c.want)
		}
	}
}

func TestP2OnlyReadAndNew(t *testing.T) {
	nodes := append(small().Nodes, api.Node{Op: 88})
	in := []int{4, 5, 71, 72}
	first, e := run.Run(api.Prog{Regs: 3, Nodes: nodes[:7]}, in[:2], 99)
	if e != api.OK || !slices.Equal(nodes, append(small().Nodes, api.Node{Op: 88})) || !slices.Equal(in, []int{4, 5, 71, 72}) {
		t.Errorf("what was handed in is changed: %v %v %d", nodes, in, e)
	}
	nodes[3].Op, in[0] = api.Sub, 1
	if !slices.Equal(first.Out, []int{9}) || run.Times(first, sum) != 2 {
		t.Errorf("a later change is seen: %v", first)
	}
	first.Out[0], first.Counts[0].N = -1, -1
	mustRun(t, small(), []int{4, 5}, 99, api.Result{Out: []int{9}, Ret: 9, Ended: true, Steps: 7, Counts: []api.Count{{Term: sum, N: 2}}})
	kept := slices.Clone(first.Counts)
	run.Times(first, sum)
	if !slices.Equal(first.Counts, kept) {
		t.Error("Times changes the result")
	}
}

func TestP3TheSameAgain(t *testing.T) {
	p := small()
	first, _ := run.Run(p, []int{4, 5}, 99)
	run.Run(p, []int{7}, 3)
	run.Run(p, nil, -1)
	if again, _ := run.Run(p, []int{4, 5}, 99); !same(first, again) {
		t.Errorf("%v, then %v", first, again)
	}
}

func TestP4MostFuel(t *testing.T) {
	p := api.Prog{Regs: 2, Nodes: []api.Node{
		{Op: api.Skip, Then: 1},
		{Op: api.Out, A: 0, Then: 2},
		{Op: api.Add, D: 0, A: 0, B: 1, Then: 1},
	}}
	r, e := run.Run(p, nil, api.MaxFuel)
	if e != api.OK || r.Ended || r.Ret != 0 || r.Steps != api.MaxFuel || len(r.Out) != api.MaxFuel/2 || run.Times(r, sum) != api.MaxFuel/2-1 {
		t.Errorf("%d: %d steps, %d told, %v", e, r.Steps, len(r.Out), r.Counts)
	}
}
