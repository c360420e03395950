package flow_test

import (
	"math"
	"slices"
	"testing"

	"hoistway/api"
	"hoistway/flow"
	"hoistway/prog"
)

// small is example 1 of the document.
func small() api.Prog {
	return api.Prog{Regs: 3, Nodes: []api.Node{
		{Op: api.In, D: 0, Then: 1},
		{Op: api.In, D: 1, Then: 2},
		{Op: api.If, A: 0, Then: 3, Else: 5},
		{Op: api.Add, D: 2, A: 0, B: 1, Then: 4},
		{Op: api.Out, A: 2, Then: 5},
		{Op: api.Add, D: 2, A: 0, B: 1, Then: 6},
		{Op: api.End, A: 2},
	}}
}

// list reads a yes of each x.
func list(s string) []bool {
	l := make([]bool, len(s))
	for i := range s {
		l[i] = s[i] == 'x'
	}
	return l
}

// draw: numbers that are the same each time.
type draw uint64

func (d *draw) below(n int) int {
	*d = *d*6364136223846793005 + 1442695040888963407
	return int(uint64(*d) >> 33 % uint64(n))
}

// drawn is a right program of n nodes: where it leads is all that counts here.
func drawn(r *draw, n int) api.Prog {
	p := api.Prog{Regs: 1}
	for range n {
		x := api.Node{Op: api.End}
		switch k := r.below(8); {
		case n == 1 || k == 0:
		case k < 5:
			x = api.Node{Op: api.Skip, Then: 1 + r.below(n-1)}
		default:
			x = api.Node{Op: api.If, Then: 1 + r.below(n-1), Else: 1 + r.below(n-1)}
		}
		p.Nodes = append(p.Nodes, x)
	}
	return p
}

// yeses: of six about so many.
func yeses(r *draw, n, six int) []bool {
	l := make([]bool, n)
	for i := range l {
		l[i] = r.below(6) < six
	}
	return l
}

func drawnFlow(r *draw, n int) api.Flow {
	return api.Flow{
		Back: r.below(2) == 0, Empty: r.below(2) == 0,
		Gen: yeses(r, n, r.below(3)), Pass: yeses(r, n, 3+r.below(4)), Plus: yeses(r, n, r.below(3)), Let: yeses(r, n, 3+r.below(4)),
	}
}

// isAnswer is the sentence of E1, by the calls of chapter 1.
func isAnswer(t *testing.T, p api.Prog, f api.Flow, x []bool) bool {
	for n := range p.Nodes {
		l, e := prog.Ahead(p, n)
		if f.Back {
			l, e = prog.Next(p, n)
		}
		if e != api.OK {
			t.Fatal(e)
		}
		all := true
		for _, m := range l {
			all = all && (f.Plus[m] || (f.Let[m] && x[m]))
		}
		if len(l) == 0 {
			all = f.Empty
		}
		if x[n] != (f.Gen[n] || (f.Pass[n] && all)) {
			return false
		}
	}
	return true
}

func TestE1Check(t *testing.T) {
	seven := func() api.Flow {
		return api.Flow{Gen: make([]bool, 7), Pass: make([]bool, 7), Plus: make([]bool, 7), Let: make([]bool, 7)}
	}
	if e := flow.Check(small(), seven()); e != api.OK {
		t.Error(e)
	}
	for _, n := range []int{0, 1, 6, 8, 300} {
		for k := range 4 {
			f := seven()
			*[]*[]bool{&f.Gen, &f.Pass, &f.Plus, &f.Let}[k] = make([]bool, n)
			mustRefuse(t, small(), f, make([]bool, 7), api.ErrForm)
		}
	}
	mustRefuse(t, small(), api.Flow{}, nil, api.ErrForm)
	mustRefuse(t, small(), api.Flow{Back: true, Empty: true}, nil, api.ErrForm)
}

// mustRefuse: all calls tell the error, and nothing else.
func mustRefuse(t *testing.T, p api.Prog, f api.Flow, x []bool, want api.Errno) {
	t.Helper()
	if e := flow.Check(p, f); e != want {
		t.Errorf("Check: %d, not %d", e, want)
	}
	if l, e := flow.Solve(p, f); e != want || l != nil {
		t.Errorf("Solve: %v %d, not %d", l, e, want)
	}
	if is, e := flow.Holds(p, f, x); e != want || is {
		t.Errorf("Holds: %v %d, not %d", is, e, want)
	}
}

func TestE1ErrorsOfTheProgramFirst(t *testing.T) {
	for want, l := range map[api.Errno][]api.Prog{
		api.ErrMany:  {{}, {Regs: 1}, {Regs: 65, Nodes: []api.Node{{Op: api.End}}}, {Regs: 1, Nodes: make([]api.Node, 257)}},
		api.ErrKind:  {{Regs: 1, Nodes: []api.Node{{Op: 13}}}, {Regs: 1, Nodes: []api.Node{{Op: api.End, A: 5}, {Op: -1}}}},
		api.ErrRange: {{Regs: 1, Nodes: []api.Node{{Op: api.Skip}}}, {Regs: 1, Nodes: []api.Node{{Op: api.Skip, Then: math.MinInt}}}},
		api.ErrForm:  {{Regs: 1, Nodes: []api.Node{{Op: api.End, Then: 1}}}},
	} {
		for _, p := range l {
			none := make([]bool, len(p.Nodes))
			mustRefuse(t, p, api.Flow{Gen: none, Pass: none, Plus: none, Let: none}, none, want)
			mustRefuse(t, p, api.Flow{Gen: make([]bool, 3)}, nil, want)
		}
	}
}

func TestE1EachPartCounts(t *testing.T) {
	// From node 0 either to node 1, which ends, or to node 2 and then 3, which leads to itself.
	p := api.Prog{Regs: 1, Nodes: []api.Node{{Op: api.If, Then: 2, Else: 1}, {Op: api.End}, {Op: api.Skip, Then: 3}, {Op: api.Skip, Then: 3}}}
	for _, c := range []struct {
		back, empty                bool
		gen, pass, plus, let, want string
	}{
		{false, false, "....", "....", "xxxx", "xxxx", "...."}, // nothing passes
		{false, false, "x.x.", "....", "xxxx", "xxxx", "x.x."}, // Gen alone
		{false, false, "....", "xxxx", "....", "....", "...."}, // nothing is let
		{false, true, "....", "xxxx", "....", "....", "x..."},  // nothing ahead of node 0
		{false, true, "....", ".xxx", "....", "....", "...."},  // Empty must pass too
		{false, true, "....", "xxxx", "....", "xxxx", "xxxx"},
		{false, false, "....", "xxxx", "....", "xxxx", "...."},
		{false, false, "....", "xxxx", "x...", "....", ".xx."}, // Plus of the nodes ahead
		{false, false, "....", "xxxx", "x.x.", "...x", ".xxx"}, // all of them, by Plus or by Let
		{true, false, "....", "xxxx", "....", "xxxx", "..xx"},  // for ever round, the greatest answer is yes
		{true, true, "....", "xxxx", "....", "xxxx", "xxxx"},
		{true, true, "....", "xxxx", "....", "....", ".x.."},
		{true, false, "....", "xxxx", ".x..", "..xx", "x.xx"}, // node 1 by Plus, node 2 by Let
		{true, false, "....", "xxxx", ".x..", "...x", "..xx"}, // not both of those behind node 0
		{true, false, "....", "xxx.", ".xx.", "xxxx", "x..."},
		{true, false, ".x..", "xxxx", "....", "xxxx", "xxxx"},
	} {
		f := api.Flow{Back: c.back, Empty: c.empty, Gen: list(c.gen), Pass: list(c.pass), Plus: list(c.plus), Let: list(c.let)}
		if x, e := flow.Solve(p, f); e != api.OK || !slices.Equal(x, list(c.want)) {
			t.Errorf("%v: %v %d", c, x, e)
		}
	}
}

func TestE2Example(t *testing.T) {
	// Which nodes surely lead to the End? All.
	f := api.Flow{Back: true, Empty: false, Gen: list("......x"), Pass: list("xxxxxxx"), Plus: list("......."), Let: list("xxxxxxx")}
	if x, e := flow.Solve(small(), f); e != api.OK || !slices.Equal(x, list("xxxxxxx")) {
		t.Errorf("%v %d", x, e)
	}
	for _, s := range []string{".xxxxxx", "xxxxxx.", "......."} {
		if is, e := flow.Holds(small(), f, list(s)); e != api.OK || is {
			t.Errorf("%s: %v %d", s, is, e)
		}
	}
	if is, e := flow.Holds(small(), f, list("xxxxxxx")); e != api.OK || !is {
		t.Errorf("%v %d", is, e)
	}
}

func TestE2SeveralAnswers(t *testing.T) {
	// Two rings: each of them says yes or no all the way round.
	p := api.Prog{Regs: 1, Nodes: []api.Node{{Op: api.Skip, Then: 1}, {Op: api.Skip, Then: 2}, {Op: api.Skip, Then: 1}, {Op: api.Skip, Then: 3}}}
	f := api.Flow{Back: true, Gen: list("...."), Pass: list("xxxx"), Plus: list("...."), Let: list("xxxx")}
	for _, s := range []string{"....", "xxx.", "...x", "xxxx"} {
		if is, e := flow.Holds(p, f, list(s)); e != api.OK || !is {
			t.Errorf("%s: %v %d", s, is, e)
		}
	}
	for _, s := range []string{"x...", ".xx.", ".x..", "xx.x"} {
		if is, e := flow.Holds(p, f, list(s)); e != api.OK || is {
			t.Errorf("%s: %v %d", s, is, e)
		}
	}
	if x, e := flow.Solve(p, f); e != api.OK || !slices.Equal(x, list("xxxx")) {
		t.Errorf("%v %d", x, e)
	}
}

func TestE2HoldsLength(t *testing.T) {
	f := api.Flow{Gen: list("......."), Pass: list("......."), Plus: list("......."), Let: list(".......")}
	for _, n := range []int{0, 1, 6, 8, 300} {
		if is, e := flow.Holds(small(), f, make([]bool, n)); e != api.ErrForm || is {
			t.Errorf("%d elements: %v %d", n, is, e)
		}
	}
	if is, e := flow.Holds(small(), f, make([]bool, 7)); e != api.OK || !is {
		t.Errorf("seven elements: %v %d", is, e)
	}
}

// answers goes through all lists of yes and no, and answers what the answers among them say together.
func answers(t *testing.T, p api.Prog, f api.Flow) (together []bool, n int) {
	together = make([]bool, len(p.Nodes))
	x := make([]bool, len(p.Nodes))
	for bits := range 1 << len(p.Nodes) {
		for i := range x {
			x[i] = bits>>i&1 == 1
		}
		want := isAnswer(t, p, f, x)
		if is, e := flow.Holds(p, f, x); e != api.OK || is != want {
			t.Fatalf("%v %v: Holds of %v is %v %d", p, f, x, is, e)
		}
		if !want {
			continue
		}
		n++
		for i := range x {
			together[i] = together[i] || x[i]
		}
	}
	return together, n
}

func TestE2GreatestOfAllAnswers(t *testing.T) {
	r := draw(1)
	several := 0
	for range 400 {
		p := drawn(&r, 1+r.below(7))
		f := drawnFlow(&r, len(p.Nodes))
		want, n := answers(t, p, f)
		if n > 1 {
			several++
		}
		x, e := flow.Solve(p, f)
		if e != api.OK || !slices.Equal(x, want) || !isAnswer(t, p, f, x) {
			t.Errorf("%v %v: %v %d, not %v", p, f, x, e, want)
		}
	}
	if several < 40 {
		t.Errorf("only %d flows had several answers", several)
	}
}

func TestP2OnlyReadAndNew(t *testing.T) {
	room := func(s string) []bool { return list(s + "x.x.x.x.")[:len(s)] }
	whole := func(l []bool) []bool { return slices.Clone(l[:cap(l)]) }
	f := api.Flow{Back: true, Gen: room("......x"), Pass: room("xxxxxxx"), Plus: room("......."), Let: room("xxxxxxx")}
	x := room("xxxxxxx")
	nodes := append(small().Nodes, api.Node{Op: 99}, api.Node{Op: 98})
	p := api.Prog{Regs: 3, Nodes: nodes[:7]}
	lists := [][]bool{f.Gen, f.Pass, f.Plus, f.Let, x}
	var kept [][]bool
	for _, l := range lists {
		kept = append(kept, whole(l))
	}
	keptNodes := slices.Clone(nodes)

	first, _ := flow.Solve(p, f)
	flow.Holds(p, f, x)
	flow.Check(p, f)
	for i := range first {
		first[i] = false
	}
	_ = append(first, false, false)
	for i, l := range lists {
		if !slices.Equal(whole(l), kept[i]) {
			t.Errorf("list %d is changed: %v", i, l)
		}
	}
	if !slices.Equal(nodes, keptNodes) {
		t.Errorf("the nodes are changed: %v", nodes)
	}
	if again, _ := flow.Solve(p, f); !slices.Equal(again, list("xxxxxxx")) {
		t.Errorf("an answer is kept: %v", again)
	}
}

func TestP3NothingIsKept(t *testing.T) {
	p := small()
	f := api.Flow{Back: true, Gen: list("......x"), Pass: list("xxxxxxx"), Plus: list("......."), Let: list("xxxxxxx")}
	for range 3 {
		f.Gen[6] = true
		if x, _ := flow.Solve(p, f); !slices.Equal(x, list("xxxxxxx")) {
			t.Error(x)
		}
		f.Gen[6] = false
		if x, _ := flow.Solve(p, f); !slices.Equal(x, list(".......")) {
			t.Error(x)
		}
	}
}

func TestP4GreatestProgram(t *testing.T) {
	// A no has to go all the way from one end of the program to the other.
	p := api.Prog{Regs: 1}
	for n := range api.MaxNodes - 1 {
		p.Nodes = append(p.Nodes, api.Node{Op: api.If, Then: n + 1, Else: api.MaxNodes - 1})
	}
	p.Nodes = append(p.Nodes, api.Node{Op: api.End})
	all, none := slices.Repeat([]bool{true}, api.MaxNodes), make([]bool, api.MaxNodes)
	for _, back := range []bool{false, true} {
		for _, empty := range []bool{false, true} {
			f := api.Flow{Back: back, Empty: empty, Gen: none, Pass: all, Plus: none, Let: all}
			want := none
			if empty {
				want = all
			}
			x, e := flow.Solve(p, f)
			if e != api.OK || !slices.Equal(x, want) {
				t.Errorf("%v %v: %v %d", back, empty, x, e)
			}
			if is, e := flow.Holds(p, f, x); e != api.OK || !is {
				t.Errorf("%v %v: %v %d", back, empty, is, e)
			}
		}
	}
}
