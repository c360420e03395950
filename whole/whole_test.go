package whole_test

import (
	"math"
	"reflect"
	"slices"
	"testing"

	"hoistway/api"
	"hoistway/graph"
	"hoistway/live"
	"hoistway/move"
	"hoistway/prog"
	"hoistway/run"
	"hoistway/text"
	"hoistway/whole"
)

// small is example 1 of the document.
func small() api.Prog {
	return api.Prog{Regs: 3, Nodes: []api.Node{
		{Op: api.In, D: 0, Then: 1},
		{Op: api.In, D: 1, Then: 2},
		{Op: api.If, A: 0, Then: 3, Else: 5},
		{Op: api.Add, D: 2, A: 0, B: 1, Then: 4},
		{Op: api.Out, A: 2, Then: 5},
		{Op: api.Add, D: 2, A: 0, B: 1, Then: 6},
		{Op: api.End, A: 2},
	}}
}

const smallText = "regs 3\nin 0 to 1\nin 1 to 2\nif 0 to 3 else 5\nadd 2 0 1 to 4\nout 2 to 5\nadd 2 0 1 to 6\nend 2\n"

// draw: numbers that are the same each time.
type draw uint64

func (d *draw) below(n int) int {
	*d = *d*6364136223846793005 + 1442695040888963407
	return int(uint64(*d) >> 33 % uint64(n))
}

func (d *draw) passes(most int) []int {
	var l []int
	for range d.below(most + 1) {
		l = append(l, 1+d.below(4))
	}
	return l
}

// drawn is a right program of n nodes in which few terms are reckoned, often.
func drawn(r *draw, n int) api.Prog {
	p := api.Prog{Regs: 2 + r.below(3)}
	reg := func() int { return r.below(p.Regs) }
	for i := range n - 1 {
		x := api.Node{Then: i + 1}
		if r.below(4) == 0 {
			x.Then = 1 + r.below(n-1)
		}
		switch r.below(10) {
		case 0, 1, 2:
			x.Op, x.D, x.A, x.B = api.Add, reg(), 0, 1
		case 3:
			x.Op, x.D, x.A, x.B = api.Add+r.below(6), reg(), r.below(2), 1
		case 4, 5:
			x.Op, x.A, x.Else = api.If, reg(), 1+r.below(n-1)
		case 6:
			x.Op, x.D = api.In, reg()
		case 7:
			x.Op, x.A = api.Out, reg()
		case 8:
			x.Op, x.D, x.A = api.Set, reg(), r.below(4)-1
		}
		if x.Op == api.Skip && r.below(2) == 0 {
			x.Op, x.D, x.A = api.Copy, reg(), reg()
		}
		p.Nodes = append(p.Nodes, x)
	}
	p.Nodes = append(p.Nodes, api.Node{Op: api.End, A: reg()})
	return p
}

func same(p, q api.Prog) bool { return p.Regs == q.Regs && slices.Equal(p.Nodes, q.Nodes) }

// mustBe holds a program, and that it is right, against the one that is asked for.
func mustBe(t *testing.T, what string, p api.Prog, e api.Errno, want api.Prog) {
	t.Helper()
	if e != api.OK || !same(p, want) {
		t.Errorf("%s: it is\n%v %d\nand must be\n%v", what, p, e, want)
	}
	if e := prog.Check(p); e != api.OK {
		t.Errorf("%s: no right program: %d", what, e)
	}
}

func mustFail(t *testing.T, what string, p api.Prog, e, want api.Errno) {
	t.Helper()
	if e != want || !reflect.DeepEqual(p, api.Prog{}) {
		t.Errorf("%s: %v %d, not %d", what, p, e, want)
	}
}

// byHand does one pass by the call that the chapter names for it.
func byHand(p api.Prog, k int) (api.Prog, api.Errno) {
	switch k {
	case 1:
		return graph.Split(p)
	case 2:
		return move.All(p)
	case 3:
		return live.Dead(p)
	}
	return graph.Trim(p)
}

func TestI1EachPass(t *testing.T) {
	// In it an edge is to be split, a sum to be moved, a number is dead, and node 1 is never come to.
	p := small()
	p.Nodes[0].Then = 7
	p.Nodes = append(p.Nodes, api.Node{Op: api.Set, D: 2, A: 9, Then: 8}, api.Node{Op: api.In, D: 1, Then: 2})
	var all []api.Prog
	for k := api.PassSplit; k <= api.PassTrim; k++ {
		want, e := byHand(p, k)
		if e != api.OK {
			t.Fatalf("%d: %d", k, e)
		}
		q, e := whole.Passes(p, []int{k})
		mustBe(t, "one pass", q, e, want)
		all = append(all, p, want)
	}
	for i := 1; i < len(all); i += 2 {
		for j := range i {
			if same(all[i], all[j]) {
				t.Errorf("passes %d and %d do the same", i, j)
			}
		}
	}
}

func TestI1OneBehindTheOther(t *testing.T) {
	q, e := whole.Passes(small(), []int{api.PassLazy, api.PassDead, api.PassTrim})
	want, _ := move.All(small())
	mustBe(t, "example 9", q, e, want)
	for _, l := range [][]int{nil, {}} {
		q, e = whole.Passes(small(), l)
		mustBe(t, "no pass", q, e, small())
	}
	r := draw(1)
	for range 500 {
		p := drawn(&r, 2+r.below(12))
		l := r.passes(6)
		want := p
		for _, k := range l {
			var e api.Errno
			want, e = byHand(want, k)
			if e != api.OK {
				t.Fatalf("%v: %d", p, e)
			}
		}
		q, e := whole.Passes(p, l)
		mustBe(t, "drawn", q, e, want)
	}
}

func TestI1TheOrderCounts(t *testing.T) {
	p := api.Prog{Regs: 2, Nodes: []api.Node{{Op: api.If, A: 0, Then: 1, Else: 2}, {Op: api.Out, A: 0, Then: 2}, {Op: api.End}, {Op: api.Out, A: 0, Then: 1}}}
	q, _ := whole.Passes(p, []int{api.PassSplit, api.PassTrim})
	s, _ := whole.Passes(p, []int{api.PassTrim, api.PassSplit})
	if len(q.Nodes) != 6 || len(s.Nodes) != 5 {
		t.Errorf("%v, %v", q, s)
	}
}

func TestI1Errors(t *testing.T) {
	long := func(n, k int) []int { return slices.Repeat([]int{k}, n) }
	p, e := whole.Passes(small(), long(api.MaxPass, api.PassDead))
	mustBe(t, "as many as there may be", p, e, small())
	p, e = whole.Passes(small(), long(api.MaxPass+1, api.PassDead))
	mustFail(t, "one too many", p, e, api.ErrMany)
	p, e = whole.Passes(small(), long(api.MaxPass+1, 0))
	mustFail(t, "too many that are none", p, e, api.ErrMany)
	for _, k := range []int{0, 5, -1, math.MinInt, math.MaxInt} {
		for _, l := range [][]int{{k}, {1, 2, 3, 4, k}, {k, 1}, long(api.MaxPass, k)} {
			p, e = whole.Passes(small(), l)
			mustFail(t, "one that is none", p, e, api.ErrKind)
		}
	}
}

// fan has so many nodes, of which each leads to the last one, an End.
func fan(nodes int) api.Prog {
	p := api.Prog{Regs: 2}
	for n := range nodes - 1 {
		p.Nodes = append(p.Nodes, api.Node{Op: api.If, A: 0, Then: n + 1, Else: nodes - 1})
	}
	p.Nodes = append(p.Nodes, api.Node{Op: api.End})
	return p
}

func TestI1ErrorsOfWhatIsDone(t *testing.T) {
	if p, e := whole.Passes(fan(128), []int{api.PassSplit}); e != api.OK || len(p.Nodes) != 255 {
		t.Errorf("%d nodes, %d", len(p.Nodes), e)
	}
	for _, l := range [][]int{{1}, {3, 4, 1}, {1, 3}} {
		p, e := whole.Passes(fan(129), l)
		mustFail(t, "no room to split", p, e, api.ErrMany)
	}
	p, e := whole.Passes(fan(129), []int{1, 5})
	mustFail(t, "ErrKind is named ahead of what is done", p, e, api.ErrKind)
	p, e = whole.Passes(fan(129), []int{2, 3, 4})
	mustBe(t, "nothing is split", p, e, fan(129))
	full := small()
	full.Regs = api.MaxRegs
	p, e = whole.Passes(full, []int{api.PassLazy})
	mustFail(t, "no register left", p, e, api.ErrMany)
	p, e = whole.Passes(full, []int{api.PassDead, api.PassTrim})
	mustBe(t, "none is needed", p, e, full)
}

func TestI1ErrorsOfTheProgramFirst(t *testing.T) {
	for want, progs := range map[api.Errno][]api.Prog{
		api.ErrMany:  {{}, {Regs: 1}, {Regs: 65, Nodes: []api.Node{{Op: api.End}}}, {Regs: 1, Nodes: make([]api.Node, 257)}},
		api.ErrKind:  {{Regs: 1, Nodes: []api.Node{{Op: 13}}}, {Regs: 1, Nodes: []api.Node{{Op: api.End, A: 5}, {Op: -1}}}},
		api.ErrRange: {{Regs: 1, Nodes: []api.Node{{Op: api.Skip}}}, {Regs: 1, Nodes: []api.Node{{Op: api.Skip, Then: math.MinInt}}}},
		api.ErrForm:  {{Regs: 1, Nodes: []api.Node{{Op: api.End, Then: 1}}}},
	} {
		for _, p := range progs {
			for _, l := range [][]int{nil, {1}, {4, 2}, {0}, make([]int, 17)} {
				q, e := whole.Passes(p, l)
				mustFail(t, "Check's", q, e, want)
			}
		}
	}
}

func TestI2Optimise(t *testing.T) {
	s, e := whole.Optimise(smallText, nil)
	if e != api.OK || s != smallText {
		t.Errorf("no pass: %q %d", s, e)
	}
	s, e = whole.Optimise(smallText, []int{api.PassSplit})
	if want := "regs 3\nin 0 to 1\nin 1 to 2\nif 0 to 3 else 7\nadd 2 0 1 to 4\nout 2 to 8\nadd 2 0 1 to 6\nend 2\nskip to 5\nskip to 5\n"; e != api.OK || s != want {
		t.Errorf("split: %q %d", s, e)
	}
	s, e = whole.Optimise(smallText, []int{api.PassLazy, api.PassDead, api.PassTrim})
	if want := "regs 4\nin 0 to 1\nin 1 to 2\nif 0 to 3 else 7\nadd 3 0 1 to 9\nout 2 to 8\ncopy 2 3 to 6\nend 2\nadd 3 0 1 to 10\nskip to 5\ncopy 2 3 to 4\nskip to 5\n"; e != api.OK || s != want {
		t.Errorf("example 9: %q %d", s, e)
	}
	r := draw(2)
	for range 300 {
		p := drawn(&r, 2+r.below(12))
		l := r.passes(6)
		q, e := whole.Passes(p, l)
		if e != api.OK {
			t.Fatalf("%v: %d", p, e)
		}
		shown, _ := text.Show(p)
		want, _ := text.Show(q)
		if s, e := whole.Optimise(shown, l); e != api.OK || s != want {
			t.Errorf("%q: it is\n%q %d\nand must be\n%q", shown, s, e, want)
		}
	}
}

func TestI2Errors(t *testing.T) {
	fanned, _ := text.Show(fan(129))
	for _, c := range []struct {
		s    string
		l    []int
		want api.Errno
	}{
		{"", nil, api.ErrForm}, {"regs 1\n", nil, api.ErrForm}, {"regs 1\nend 1\n", nil, api.ErrForm}, {"regs 1\nend 0", nil, api.ErrForm}, {"\x00\xff", []int{1}, api.ErrForm},
		{"regs 1\nskip to 0\n", make([]int, 17), api.ErrForm}, {"regs 65\nend 0\n", []int{0}, api.ErrForm}, // Read comes first
		{smallText, make([]int, 17), api.ErrMany}, {smallText, []int{0}, api.ErrKind}, {smallText, []int{1, 5}, api.ErrKind}, {fanned, []int{1}, api.ErrMany}, {fanned, []int{1, 7}, api.ErrKind},
		{smallText, []int{4}, api.OK},
	} {
		if s, e := whole.Optimise(c.s, c.l); e != c.want || (e == api.OK) != (s != "") {
			t.Errorf("%.40q %v: %q %d, not %d", c.s, c.l, s, e, c.want)
		}
	}
}

func mustRun(t *testing.T, p api.Prog, in []int, fuel int) api.Result {
	t.Helper()
	r, e := run.Run(p, in, fuel)
	if e != api.OK {
		t.Fatalf("%v: %d", p, e)
	}
	return r
}

func reckoned(r api.Result) int {
	n := 0
	for _, c := range r.Counts {
		n += c.N
	}
	return n
}

// begins: has the one told what the other has, as far as that goes?
func begins(first, long []int) bool {
	return len(first) <= len(long) && slices.Equal(first, long[:len(first)])
}

func TestI3ItDoesWhatItDid(t *testing.T) {
	r := draw(3)
	ended, endless, fewer := 0, 0, 0
	for range 3000 {
		p := drawn(&r, 3+r.below(14))
		l := r.passes(7)
		q, e := whole.Passes(p, l)
		if e != api.OK {
			t.Fatalf("%v: %d", p, e)
		}
		in := []int{r.below(2), r.below(3) - 1, r.below(2), r.below(2)}
		x, y := mustRun(t, p, in, 100), mustRun(t, q, in, 100)
		if x.Ended {
			ended++
			y := mustRun(t, q, in, 2000)
			if !y.Ended || y.Ret != x.Ret || !slices.Equal(x.Out, y.Out) || reckoned(y) > reckoned(x) {
				t.Fatalf("%v with %v: %v, and by passes %v %v", p, in, x, l, y)
			}
			if reckoned(y) < reckoned(x) {
				fewer++
			}
			continue
		}
		endless++
		if long := mustRun(t, q, in, 5000); !begins(x.Out, long.Out) {
			t.Fatalf("%v with %v: %v, and by passes %v %v", p, in, x, l, long)
		}
		if long := mustRun(t, p, in, 5000); !begins(y.Out, long.Out) || y.Ended && (!long.Ended || y.Ret != long.Ret || len(y.Out) != len(long.Out)) {
			t.Fatalf("%v with %v: %v, and by passes %v %v", p, in, long, l, y)
		}
	}
	if ended < 1000 || endless < 200 || fewer < 100 {
		t.Errorf("hardly tried: %d, %d, %d", ended, endless, fewer)
	}
}

func TestP1WhateverIsHandedIn(t *testing.T) {
	r := draw(4)
	odd := []int{math.MinInt, -1, 0, 0, 1, 1, 2, 3, 12, 13, 64, 256, math.MaxInt}
	pick := func() int { return odd[r.below(len(odd))] }
	for range 5000 {
		p := api.Prog{Regs: pick()}
		for range r.below(4) {
			p.Nodes = append(p.Nodes, api.Node{Op: r.below(14), D: pick(), A: pick(), B: pick(), Then: pick(), Else: pick()})
		}
		var l []int
		for range r.below(4) {
			l = append(l, pick())
		}
		q, e := whole.Passes(p, l)
		if c := prog.Check(p); c != api.OK && e != c {
			t.Errorf("%v: %d, not %d", p, e, c)
		}
		if e != api.OK && !reflect.DeepEqual(q, api.Prog{}) {
			t.Errorf("%v: %v beside error %d", p, q, e)
		}
		b := []byte(smallText)
		b[r.below(len(b))] = byte(r.below(256))
		if s, e := whole.Optimise(string(b), l); e != api.OK && s != "" {
			t.Errorf("%q: %q beside error %d", b, s, e)
		}
	}
}

func TestP2OnlyReadAndNew(t *testing.T) {
	for _, l := range [][]int{nil, {1}, {2}, {3}, {4}, {1, 2, 3, 4}} {
		room := append(small().Nodes, make([]api.Node, 20)...)
		for i := range room[7:] {
			room[7+i] = api.Node{Op: 99, D: i}
		}
		kept := slices.Clone(room)
		p := api.Prog{Regs: 3, Nodes: room[:7]}
		passes := append(slices.Clone(l), 77, 78)
		passesKept := slices.Clone(passes)
		q, _ := whole.Passes(p, passes[:len(l)])
		was, _ := whole.Passes(p, l)
		for i := range q.Nodes {
			q.Nodes[i] = api.Node{Op: -5}
		}
		_ = append(q.Nodes, api.Node{Op: -6})
		if !slices.Equal(room, kept) || !slices.Equal(passes, passesKept) {
			t.Errorf("%v: what was handed in is changed: %v %v", l, room, passes)
		}
		again, e := whole.Passes(p, l)
		mustBe(t, "once more", again, e, was)
	}
}

func TestP3NothingIsKept(t *testing.T) {
	first, _ := whole.Optimise(smallText, []int{2, 3})
	for range 3 {
		if s, e := whole.Optimise("regs 1\nend 0\n", []int{2, 3}); e != api.OK || s != "regs 1\nend 0\n" {
			t.Errorf("%q %d", s, e)
		}
		if s, e := whole.Optimise(smallText, []int{2, 3}); e != api.OK || s != first {
			t.Errorf("%q %d", s, e)
		}
	}
}

func TestP4GreatestProgram(t *testing.T) {
	// As many nodes, registers and passes as there may be, with nothing to be moved and all of it dead.
	p := api.Prog{Regs: api.MaxRegs}
	want := api.Prog{Regs: api.MaxRegs}
	for n := range api.MaxNodes - 1 {
		p.Nodes = append(p.Nodes, api.Node{Op: api.Add + n%6, D: 63, A: n % 63, B: n / 6 % 63, Then: n + 1})
		want.Nodes = append(want.Nodes, api.Node{Op: api.Skip, Then: n + 1})
	}
	p.Nodes = append(p.Nodes, api.Node{Op: api.End})
	want.Nodes = append(want.Nodes, api.Node{Op: api.End})
	q, e := whole.Passes(p, slices.Repeat([]int{1, 2, 3, 4}, 4))
	mustBe(t, "four times all four", q, e, want)
}
