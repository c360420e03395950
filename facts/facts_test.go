package facts_test

import (
	"math"
	"reflect"
	"slices"
	"testing"

	"hoistway/api"
	"hoistway/facts"
	"hoistway/graph"
	"hoistway/prog"
)

// small is example 1 of the document.
func small() api.Prog {
	return api.Prog{Regs: 3, Nodes: []api.Node{
		{Op: api.In, D: 0, Then: 1},
		{Op: api.In, D: 1, Then: 2},
		{Op: api.If, A: 0, Then: 3, Else: 5},
		{Op: api.Add, D: 2, A: 0, B: 1, Then: 4},
		{Op: api.Out, A: 2, Then: 5},
		{Op: api.Add, D: 2, A: 0, B: 1, Then: 6},
		{Op: api.End, A: 2},
	}}
}

var sum = api.Term{Op: api.Add, A: 0, B: 1}

// list reads a yes of each x.
func list(s string) []bool {
	l := make([]bool, len(s))
	for i := range s {
		l[i] = s[i] == 'x'
	}
	return l
}

func signs(l []bool) string {
	s := ""
	for _, is := range l {
		if is {
			s += "x"
		} else {
			s += "."
		}
	}
	return s
}

func lists(f api.Facts) [6][]bool {
	return [6][]bool{f.Down, f.Up, f.Earliest, f.Delay, f.Latest, f.Alone}
}

// mustBe: the facts, in the order of the chapter.
func mustBe(t *testing.T, p api.Prog, u api.Term, want ...string) {
	t.Helper()
	f, e := facts.Of(p, u)
	if e != api.OK {
		t.Fatalf("%v %v: %d", p, u, e)
	}
	for i, l := range lists(f) {
		if signs(l) != want[i] {
			t.Errorf("%v of %v: %s is %s, and must be %s", u, p.Nodes, []string{"Down", "Up", "Earliest", "Delay", "Latest", "Alone"}[i], signs(l), want[i])
		}
	}
}

func TestF1Errors(t *testing.T) {
	for _, c := range []struct {
		u    api.Term
		want api.Errno
	}{
		{api.Term{Op: api.Add, A: 2, B: 2}, api.OK}, {api.Term{Op: api.Less}, api.OK},
		{api.Term{Op: api.Copy}, api.ErrKind}, {api.Term{Op: api.In}, api.ErrKind}, {api.Term{}, api.ErrKind}, {api.Term{Op: -1}, api.ErrKind},
		{api.Term{Op: math.MinInt}, api.ErrKind}, {api.Term{Op: math.MaxInt}, api.ErrKind}, {api.Term{Op: 99, A: -1, B: 99}, api.ErrKind},
		{api.Term{Op: api.Add, A: 3}, api.ErrRange}, {api.Term{Op: api.Add, A: -1}, api.ErrRange}, {api.Term{Op: api.Less, B: 3}, api.ErrRange},
		{api.Term{Op: api.Less, B: -1}, api.ErrRange}, {api.Term{Op: api.Mul, A: math.MaxInt, B: math.MinInt}, api.ErrRange},
	} {
		f, e := facts.Of(small(), c.u)
		if e != c.want || (e == api.OK) == reflect.DeepEqual(f, api.Facts{}) {
			t.Errorf("%v: %v %d, not %d", c.u, f, e, c.want)
		}
	}
}

func TestF1ErrorsOfTheProgramFirst(t *testing.T) {
	for want, l := range map[api.Errno][]api.Prog{
		api.ErrMany:  {{}, {Regs: 1}, {Regs: 65, Nodes: []api.Node{{Op: api.End}}}, {Regs: 1, Nodes: make([]api.Node, 257)}},
		api.ErrKind:  {{Regs: 1, Nodes: []api.Node{{Op: 13}}}, {Regs: 1, Nodes: []api.Node{{Op: api.End, A: 5}, {Op: -1}}}},
		api.ErrRange: {{Regs: 1, Nodes: []api.Node{{Op: api.Skip}}}, {Regs: 1, Nodes: []api.Node{{Op: api.Skip, Then: math.MinInt}}}},
		api.ErrForm:  {{Regs: 1, Nodes: []api.Node{{Op: api.End, Then: 1}}}},
	} {
		for _, p := range l {
			for _, u := range []api.Term{{Op: api.Add}, {Op: api.Add, A: 99}, {Op: 99}} {
				if f, e := facts.Of(p, u); e != want || !reflect.DeepEqual(f, api.Facts{}) {
					t.Errorf("%v %v: %v %d, not %d", p, u, f, e, want)
				}
			}
		}
	}
}

func TestF1ReckonsByAllThree(t *testing.T) {
	for op := api.Add; op <= api.Less; op++ {
		for a := range 2 {
			for b := range 2 {
				p := api.Prog{Regs: 3, Nodes: []api.Node{{Op: op, D: 2, A: a, B: b, Then: 1}, {Op: api.End}}}
				for other := api.Add; other <= api.Less; other++ {
					for _, u := range []api.Term{{Op: other}, {Op: other, B: 1}, {Op: other, A: 1}, {Op: other, A: 1, B: 1}} {
						f, e := facts.Of(p, u)
						if is := u == (api.Term{Op: op, A: a, B: b}); e != api.OK || f.Down[0] != is {
							t.Errorf("%v reckons %v: %v %d", p.Nodes[0], u, f.Down, e)
						}
					}
				}
			}
		}
	}
}

func TestF1KeepsByItsD(t *testing.T) {
	// A term of registers 1 and 2 is Down ahead of a node that keeps it.
	u := api.Term{Op: api.Mul, A: 1, B: 2}
	for op := api.Skip; op < api.If; op++ {
		for d := range 4 {
			x := api.Node{Op: op, Then: 2}
			if op >= api.Set && op <= api.In {
				x.D = d
			} else if d > 0 {
				continue
			}
			p := api.Prog{Regs: 4, Nodes: []api.Node{{Op: api.Skip, Then: 1}, x, {Op: api.Mul, D: 3, A: 1, B: 2, Then: 3}, {Op: api.End}}}
			f, e := facts.Of(p, u)
			if is := d != 1 && d != 2; e != api.OK || f.Down[1] != is {
				t.Errorf("%v keeps it: %v %d", x, f.Down, e)
			}
		}
	}
	// An operation without D sets nothing, not even register 0; If and Out only look at what is theirs.
	p := api.Prog{Regs: 2, Nodes: []api.Node{{Op: api.Out, A: 0, Then: 1}, {Op: api.If, A: 0, Then: 2, Else: 2}, {Op: api.Skip, Then: 3}, {Op: api.Add, D: 1, A: 0, B: 0, Then: 4}, {Op: api.End}}}
	mustBe(t, p, api.Term{Op: api.Add}, "xxxx.", "....x", "x....", "xxxx.", "...x.", "xxxxx")
}

func TestF2Example(t *testing.T) {
	mustBe(t, small(), sum, "..xxxx.", "....x.x", "..x....", "..xx...", "..xx...", "xx...xx")
	p, _ := graph.Split(small())
	mustBe(t, p, sum, "..xxxx.xx", "....x.x.x", "..x......", "..xx...x.", "...x...x.", "xxx..xx..")
}

func TestF2Edges(t *testing.T) {
	for _, c := range []struct {
		what  string
		nodes []api.Node
		want  []string
	}{
		{"an End alone", []api.Node{{Op: api.End}},
			[]string{".", ".", ".", ".", ".", "x"}},
		{"what node 0 reckons is Earliest there", []api.Node{{Op: api.Add, D: 2, B: 1, Then: 1}, {Op: api.Add, D: 2, B: 1, Then: 2}, {Op: api.End}},
			[]string{"xx.", ".xx", "x..", "x..", "x..", ".xx"}},
		{"a node with nothing ahead of it, other than 0", []api.Node{{Op: api.End}, {Op: api.Add, D: 2, B: 1, Then: 2}, {Op: api.End}},
			[]string{".x.", "..x", ".x.", ".x.", ".x.", "xxx"}},
		{"it reckons, and does not keep", []api.Node{{Op: api.Add, D: 0, B: 1, Then: 1}, {Op: api.Add, D: 0, B: 1, Then: 2}, {Op: api.End}},
			[]string{"xx.", "...", "xx.", "xx.", "xx.", "xxx"}},
		{"for ever round, Down is yes", []api.Node{{Op: api.Skip, Then: 1}, {Op: api.Skip, Then: 1}},
			[]string{"xx", "..", "x.", "xx", "..", "xx"}},
		{"a ring that nothing leads into is Up and Alone", []api.Node{{Op: api.End}, {Op: api.Skip, Then: 2}, {Op: api.Skip, Then: 1}},
			[]string{".xx", ".xx", "...", ".xx", "...", "xxx"}},
		{"what is set between is reckoned anew", []api.Node{{Op: api.Add, D: 2, B: 1, Then: 1}, {Op: api.In, D: 1, Then: 2}, {Op: api.Add, D: 2, B: 1, Then: 3}, {Op: api.End}},
			[]string{"x.x.", ".x.x", "x.x.", "x.x.", "x.x.", "xxxx"}},
		{"one way out does not reckon it", []api.Node{{Op: api.If, Then: 1, Else: 2}, {Op: api.Add, D: 2, B: 1, Then: 2}, {Op: api.End}},
			[]string{".x.", "...", ".x.", ".x.", ".x.", "xxx"}},
	} {
		t.Run(c.what, func(t *testing.T) {
			mustBe(t, api.Prog{Regs: 3, Nodes: c.nodes}, sum, c.want...)
		})
	}
}

// draw: numbers that are the same each time.
type draw uint64

func (d *draw) below(n int) int {
	*d = *d*6364136223846793005 + 1442695040888963407
	return int(uint64(*d) >> 33 % uint64(n))
}

// drawn is a right program of n nodes in which the sum is often reckoned.
func drawn(r *draw, n int) api.Prog {
	p := api.Prog{Regs: 3}
	for i := range n - 1 {
		x := api.Node{Then: i + 1}
		if r.below(3) == 0 {
			x.Then = 1 + r.below(n-1)
		}
		switch r.below(8) {
		case 0, 1, 2:
			x.Op, x.D, x.A, x.B = api.Add, []int{2, 2, 2, 1, 0}[r.below(5)], 0, 1
		case 3, 4:
			x.Op, x.Else = api.If, 1+r.below(n-1)
		case 5:
			x.Op, x.D, x.A, x.B = api.Add, r.below(3), 1, 0
		case 6:
			x.Op, x.D = api.In, r.below(3)
		}
		p.Nodes = append(p.Nodes, x)
	}
	p.Nodes = append(p.Nodes, api.Node{Op: api.End})
	return p
}

// greatest goes through all lists of yes and no: what those say together of which each element is what it must be.
func greatest(n int, must func(n int, x []bool) bool) []bool {
	together := make([]bool, n)
	x := make([]bool, n)
	for bits := range 1 << n {
		for i := range x {
			x[i] = bits>>i&1 == 1
		}
		right := true
		for i := range x {
			right = right && x[i] == must(i, x)
		}
		for i := range x {
			together[i] = together[i] || right && x[i]
		}
	}
	return together
}

// words are the sentences of F2, one by one.
func words(p api.Prog, u api.Term) api.Facts {
	size := len(p.Nodes)
	next, ahead := make([][]int, size), make([][]int, size)
	for n := range p.Nodes {
		next[n], _ = prog.Next(p, n)
		ahead[n], _ = prog.Ahead(p, n)
	}
	reckons := func(n int) bool {
		x := p.Nodes[n]
		return x.Op == u.Op && x.A == u.A && x.B == u.B
	}
	keeps := func(n int) bool {
		x := p.Nodes[n]
		return x.Op < api.Set || x.Op > api.In || x.D != u.A && x.D != u.B
	}
	all := func(l []int, so func(m int) bool) bool {
		return !slices.ContainsFunc(l, func(m int) bool { return !so(m) })
	}
	each := func(so func(n int) bool) []bool {
		l := make([]bool, size)
		for n := range l {
			l[n] = so(n)
		}
		return l
	}
	var f api.Facts
	f.Down = greatest(size, func(n int, x []bool) bool {
		return reckons(n) || keeps(n) && len(next[n]) > 0 && all(next[n], func(m int) bool { return x[m] })
	})
	f.Up = greatest(size, func(n int, x []bool) bool {
		return len(ahead[n]) > 0 && all(ahead[n], keeps) && all(ahead[n], func(m int) bool { return x[m] || reckons(m) })
	})
	f.Earliest = each(func(n int) bool {
		odd := func(m int) bool { return !keeps(m) || !f.Down[m] && !f.Up[m] }
		return f.Down[n] && (n == 0 || len(ahead[n]) == 0 || slices.ContainsFunc(ahead[n], odd))
	})
	f.Delay = greatest(size, func(n int, x []bool) bool {
		return f.Earliest[n] || len(ahead[n]) > 0 && all(ahead[n], func(m int) bool { return x[m] && !reckons(m) })
	})
	f.Latest = each(func(n int) bool {
		return f.Delay[n] && (reckons(n) || slices.ContainsFunc(next[n], func(m int) bool { return !f.Delay[m] }))
	})
	f.Alone = greatest(size, func(n int, x []bool) bool {
		return all(next[n], func(m int) bool { return f.Latest[m] || !reckons(m) && x[m] })
	})
	return f
}

func TestF2OfDrawnPrograms(t *testing.T) {
	r := draw(1)
	var yes, no [6]int
	for i := range 600 {
		p := drawn(&r, 2+r.below(7))
		if i%2 == 0 && len(p.Nodes) < 6 {
			p, _ = graph.Split(p)
		}
		want := words(p, sum)
		f, e := facts.Of(p, sum)
		if e != api.OK || !reflect.DeepEqual(f, want) {
			t.Errorf("%v: it is\n%v %d\nand must be\n%v", p, f, e, want)
		}
		for k, l := range lists(want) {
			for _, is := range l {
				if is {
					yes[k]++
				} else {
					no[k]++
				}
			}
		}
	}
	for k := range yes {
		if yes[k] < 100 || no[k] < 100 {
			t.Errorf("fact %d is hardly tried: %d, %d", k, yes[k], no[k])
		}
	}
}

func TestP1WhateverIsHandedIn(t *testing.T) {
	r := draw(2)
	odd := []int{math.MinInt, -1, 0, 0, 1, 1, 2, 3, 12, 13, 64, 256, math.MaxInt}
	pick := func() int { return odd[r.below(len(odd))] }
	for range 3000 {
		p := api.Prog{Regs: pick()}
		for range r.below(4) {
			p.Nodes = append(p.Nodes, api.Node{Op: r.below(14), D: pick(), A: pick(), B: pick(), Then: pick(), Else: pick()})
		}
		f, e := facts.Of(p, api.Term{Op: pick(), A: pick(), B: pick()})
		if c := prog.Check(p); c != api.OK && e != c {
			t.Errorf("%v: %d, not %d", p, e, c)
		}
		if e != api.OK && !reflect.DeepEqual(f, api.Facts{}) {
			t.Errorf("%v: %v beside error %d", p, f, e)
		}
	}
}

func TestP2OnlyReadAndNew(t *testing.T) {
	room := append(small().Nodes, api.Node{Op: 99}, api.Node{Op: 98})
	kept := slices.Clone(room)
	p := api.Prog{Regs: 3, Nodes: room[:7]}
	f, _ := facts.Of(p, sum)
	was, _ := facts.Of(p, sum)
	for k, l := range lists(f) {
		for i := range l {
			l[i] = !l[i]
		}
		_ = append(l, true, true)
		for j, m := range lists(f) {
			if j > k && !slices.Equal(m, lists(was)[j]) {
				t.Errorf("lists %d and %d share memory", k, j)
			}
		}
	}
	if again, _ := facts.Of(p, sum); !reflect.DeepEqual(again, was) {
		t.Errorf("an answer is kept: %v", again)
	}
	if !slices.Equal(room, kept) {
		t.Errorf("what was handed in is changed: %v", room)
	}
}

func TestP3NothingIsKept(t *testing.T) {
	p := small()
	for range 3 {
		p.Nodes[3].B = 2
		mustBe(t, p, sum, "..xxxx.", "......x", "..x....", "..xxxx.", ".....x.", "xxxxxxx")
		p.Nodes[3].B = 1
		mustBe(t, p, sum, "..xxxx.", "....x.x", "..x....", "..xx...", "..xx...", "xx...xx")
	}
}

func TestP4GreatestProgram(t *testing.T) {
	// Down goes back from the last node but one to the first, and Delay on from there.
	p := api.Prog{Regs: api.MaxRegs}
	for n := range api.MaxNodes - 2 {
		p.Nodes = append(p.Nodes, api.Node{Op: api.If, Then: n + 1, Else: api.MaxNodes - 2})
	}
	p.Nodes = append(p.Nodes, api.Node{Op: api.Less, D: 0, A: 62, B: 63, Then: api.MaxNodes - 1}, api.Node{Op: api.End})
	f, e := facts.Of(p, api.Term{Op: api.Less, A: 62, B: 63})
	if e != api.OK {
		t.Fatal(e)
	}
	for n := range p.Nodes {
		last, end := n == api.MaxNodes-2, n == api.MaxNodes-1
		got := [6]bool{f.Down[n], f.Up[n], f.Earliest[n], f.Delay[n], f.Latest[n], f.Alone[n]}
		if got != [6]bool{!end, end, n == 0, !end, last, true} {
			t.Errorf("node %d: %v", n, got)
		}
	}
}
