package move_test

import (
	"math"
	"reflect"
	"slices"
	"testing"

	"hoistway/api"
	"hoistway/facts"
	"hoistway/graph"
	"hoistway/move"
	"hoistway/prog"
	"hoistway/run"
)

// small is example 1 of the document.
func small() api.Prog {
	return api.Prog{Regs: 3, Nodes: []api.Node{
		{Op: api.In, D: 0, Then: 1},
		{Op: api.In, D: 1, Then: 2},
		{Op: api.If, A: 0, Then: 3, Else: 5},
		{Op: api.Add, D: 2, A: 0, B: 1, Then: 4},
		{Op: api.Out, A: 2, Then: 5},
		{Op: api.Add, D: 2, A: 0, B: 1, Then: 6},
		{Op: api.End, A: 2},
	}}
}

var sum = api.Term{Op: api.Add, A: 0, B: 1}

// list reads a yes of each x.
func list(s string) []bool {
	l := make([]bool, len(s))
	for i := range s {
		l[i] = s[i] == 'x'
	}
	return l
}

func signs(l []bool) string {
	s := ""
	for _, is := range l {
		if is {
			s += "x"
		} else {
			s += "."
		}
	}
	return s
}

func mustLie(t *testing.T, what string, l api.Places, e api.Errno, put, take string) {
	t.Helper()
	if e != api.OK || signs(l.Put) != put || signs(l.Take) != take {
		t.Errorf("%s: it is %s %s %d, and must be %s %s", what, signs(l.Put), signs(l.Take), e, put, take)
	}
}

// mustBe holds a program, and that it is right, against the one that is asked for.
func mustBe(t *testing.T, what string, p api.Prog, e api.Errno, want api.Prog) {
	t.Helper()
	if e != api.OK || !same(p, want) {
		t.Errorf("%s: it is\n%v %d\nand must be\n%v", what, p, e, want)
	}
	if e := prog.Check(p); e != api.OK {
		t.Errorf("%s: no right program: %d", what, e)
	}
}

func same(p, q api.Prog) bool { return p.Regs == q.Regs && slices.Equal(p.Nodes, q.Nodes) }

// draw: numbers that are the same each time.
type draw uint64

func (d *draw) below(n int) int {
	*d = *d*6364136223846793005 + 1442695040888963407
	return int(uint64(*d) >> 33 % uint64(n))
}

func (d *draw) bools(n int) []bool {
	l := make([]bool, n)
	for i := range l {
		l[i] = d.below(2) == 0
	}
	return l
}

// drawn is a right program of n nodes in which few terms are reckoned, often.
func drawn(r *draw, n int) api.Prog {
	p := api.Prog{Regs: 3}
	for i := range n - 1 {
		x := api.Node{Then: i + 1}
		if r.below(4) == 0 {
			x.Then = 1 + r.below(n-1)
		}
		switch r.below(10) {
		case 0, 1, 2:
			x.Op, x.D, x.A, x.B = api.Add, []int{2, 2, 2, 1, 0}[r.below(5)], 0, 1
		case 3:
			x.Op, x.D, x.A, x.B = api.Less, r.below(3), r.below(2), 1
		case 4, 5:
			x.Op, x.A, x.Else = api.If, r.below(3), 1+r.below(n-1)
		case 6:
			x.Op, x.D = api.In, r.below(3)
		case 7:
			x.Op, x.A = api.Out, r.below(3)
		case 8:
			x.Op, x.D, x.A = api.Set, r.below(3), r.below(4)-1
		}
		p.Nodes = append(p.Nodes, x)
	}
	p.Nodes = append(p.Nodes, api.Node{Op: api.End, A: r.below(3)})
	return p
}

// split is the program as One moves a term in it.
func split(t *testing.T, p api.Prog) api.Prog {
	t.Helper()
	q, e := graph.Trim(p)
	if e != api.OK {
		t.Fatalf("%v: %d", p, e)
	}
	q, e = graph.Split(q)
	if e != api.OK {
		t.Fatalf("%v: %d", p, e)
	}
	return q
}

func TestG1Example(t *testing.T) {
	l, e := move.Lazy(small(), sum)
	mustLie(t, "Lazy, no edge is split", l, e, "..xx...", "...x.x.")
	l, e = move.Busy(small(), sum)
	mustLie(t, "Busy, ahead of the If", l, e, "..x....", "...x.x.")
	l, e = move.Lazy(split(t, small()), sum)
	mustLie(t, "Lazy, split", l, e, "...x...x.", "...x.x...")
	l, e = move.Busy(split(t, small()), sum)
	mustLie(t, "Busy, split", l, e, "..x......", "...x.x...")
}

func TestG1Edges(t *testing.T) {
	for _, c := range []struct {
		what       string
		nodes      []api.Node
		lazy, busy [2]string
	}{
		{"an End alone", []api.Node{{Op: api.End}}, [2]string{".", "."}, [2]string{".", "."}},
		{"what is reckoned once is let be, and is moved by Busy all the same", []api.Node{{Op: api.Skip, Then: 1}, {Op: api.Add, D: 2, B: 1, Then: 2}, {Op: api.End}},
			[2]string{"...", "..."}, [2]string{"x..", ".x."}},
		{"twice, one behind the other, from node 0 on", []api.Node{{Op: api.Add, D: 2, B: 1, Then: 1}, {Op: api.Add, D: 2, B: 1, Then: 2}, {Op: api.End}},
			[2]string{"x..", "xx."}, [2]string{"x..", "xx."}},
		{"what is set between is let be", []api.Node{{Op: api.Add, D: 2, B: 1, Then: 1}, {Op: api.In, D: 1, Then: 2}, {Op: api.Add, D: 2, B: 1, Then: 3}, {Op: api.End}},
			[2]string{"....", "...."}, [2]string{"x.x.", "x.x."}},
		{"it sets its own register", []api.Node{{Op: api.Add, D: 0, B: 1, Then: 1}, {Op: api.Add, D: 0, B: 1, Then: 2}, {Op: api.End}},
			[2]string{"...", "..."}, [2]string{"xx.", "xx."}},
		{"another term alone", []api.Node{{Op: api.Add, D: 2, A: 1, B: 0, Then: 1}, {Op: api.Sub, D: 2, A: 0, B: 1, Then: 2}, {Op: api.End}},
			[2]string{"...", "..."}, [2]string{"...", "..."}},
	} {
		p := api.Prog{Regs: 3, Nodes: c.nodes}
		l, e := move.Lazy(p, sum)
		mustLie(t, c.what+": Lazy", l, e, c.lazy[0], c.lazy[1])
		l, e = move.Busy(p, sum)
		mustLie(t, c.what+": Busy", l, e, c.busy[0], c.busy[1])
	}
}

func reckons(x api.Node, u api.Term) bool { return x.Op == u.Op && x.A == u.A && x.B == u.B }

func TestG1OfDrawnPrograms(t *testing.T) {
	r := draw(1)
	for i := range 1000 {
		p := drawn(&r, 2+r.below(12))
		if i%2 == 0 {
			p = split(t, p)
		}
		f, e := facts.Of(p, sum)
		if e != api.OK {
			t.Fatalf("%v: %d", p, e)
		}
		lazy, le := move.Lazy(p, sum)
		busy, be := move.Busy(p, sum)
		if le != api.OK || be != api.OK || len(lazy.Put) != len(p.Nodes) || len(lazy.Take) != len(p.Nodes) || len(busy.Put) != len(p.Nodes) || len(busy.Take) != len(p.Nodes) {
			t.Fatalf("%v: %v %d, %v %d", p, lazy, le, busy, be)
		}
		for n, x := range p.Nodes {
			is := reckons(x, sum)
			if lazy.Put[n] != (f.Latest[n] && !f.Alone[n]) || lazy.Take[n] != (is && !(f.Latest[n] && f.Alone[n])) {
				t.Errorf("%v: Lazy at %d: %v", p, n, lazy)
			}
			if busy.Put[n] != f.Earliest[n] || busy.Take[n] != is {
				t.Errorf("%v: Busy at %d: %v", p, n, busy)
			}
		}
	}
}

func TestG2Example(t *testing.T) {
	for _, c := range []struct{ handed, put, take string }{
		{".......", ".......", "......."},
		{"xxxxxxx", "..xxxx.", "...x.x."}, // where it is not Down nothing is put
		{"xx....x", ".......", "......."},
		{"..x....", "..x....", "...x.x."},
		{"...x...", "...x...", "...x..."}, // not on the other way
		{".....x.", ".....x.", ".....x."},
		{"....x..", "....x..", "......."},
	} {
		l, e := move.Rival(small(), sum, list(c.handed))
		mustLie(t, c.handed, l, e, c.put, c.take)
	}
}

func TestG2Edges(t *testing.T) {
	for _, c := range []struct {
		what, handed, put, take string
		nodes                   []api.Node
	}{
		{"what is reckoned, but not put, is not there", "...", "...", "...",
			[]api.Node{{Op: api.Add, D: 2, B: 1, Then: 1}, {Op: api.Add, D: 2, B: 1, Then: 2}, {Op: api.End}}},
		{"what is not kept is not there any more", "x...", "x...", "x...",
			[]api.Node{{Op: api.Add, D: 2, B: 1, Then: 1}, {Op: api.In, D: 0, Then: 2}, {Op: api.Add, D: 2, B: 1, Then: 3}, {Op: api.End}}},
		{"where it is put, it is there behind one that does not keep it", "..x.", "..x.", "..x.",
			[]api.Node{{Op: api.Add, D: 2, B: 1, Then: 1}, {Op: api.In, D: 0, Then: 2}, {Op: api.Add, D: 2, B: 1, Then: 3}, {Op: api.End}}},
		{"a ring that nothing leads into: the greatest answer is yes", "...", "...", ".x.",
			[]api.Node{{Op: api.End}, {Op: api.Add, D: 2, B: 1, Then: 2}, {Op: api.Skip, Then: 1}}},
		{"a ring that something leads into", "...", "...", "...",
			[]api.Node{{Op: api.Skip, Then: 1}, {Op: api.Add, D: 2, B: 1, Then: 2}, {Op: api.Skip, Then: 1}}},
		{"round a ring, from ahead of it", "x..", "x..", ".x.",
			[]api.Node{{Op: api.Skip, Then: 1}, {Op: api.Add, D: 2, B: 1, Then: 2}, {Op: api.Skip, Then: 1}}},
	} {
		l, e := move.Rival(api.Prog{Regs: 3, Nodes: c.nodes}, sum, list(c.handed))
		mustLie(t, c.what, l, e, c.put, c.take)
	}
}

// surelyThere goes through all lists of yes and no, and joins those that are answers.
func surelyThere(t *testing.T, p api.Prog, u api.Term, put []bool) []bool {
	t.Helper()
	keeps := func(m int) bool {
		x := p.Nodes[m]
		return x.Op < api.Set || x.Op > api.In || x.D != u.A && x.D != u.B
	}
	var ahead [][]int
	for n := range p.Nodes {
		l, e := prog.Ahead(p, n)
		if e != api.OK {
			t.Fatalf("%v: %d", p, e)
		}
		ahead = append(ahead, l)
	}
	joined := make([]bool, len(p.Nodes))
	for bits := range 1 << len(p.Nodes) {
		is := func(n int) bool { return bits>>n&1 == 1 }
		answer := true
		for n := range p.Nodes {
			lost := func(m int) bool { return !keeps(m) || !is(m) }
			must := put[n] || len(ahead[n]) > 0 && !slices.ContainsFunc(ahead[n], lost)
			answer = answer && is(n) == must
		}
		for n := range joined {
			joined[n] = joined[n] || answer && is(n)
		}
	}
	return joined
}

func TestG2OfDrawnPrograms(t *testing.T) {
	r := draw(2)
	taken, left := 0, 0
	for range 800 {
		p := drawn(&r, 2+r.below(8))
		handed := r.bools(len(p.Nodes))
		f, _ := facts.Of(p, sum)
		put := make([]bool, len(p.Nodes))
		for n := range put {
			put[n] = handed[n] && f.Down[n]
		}
		there := surelyThere(t, p, sum, put)
		take := make([]bool, len(p.Nodes))
		for n, x := range p.Nodes {
			take[n] = reckons(x, sum) && there[n]
			if take[n] && !put[n] {
				taken++
			} else if reckons(x, sum) && !there[n] {
				left++
			}
		}
		l, e := move.Rival(p, sum, handed)
		if e != api.OK || !slices.Equal(l.Put, put) || !slices.Equal(l.Take, take) {
			t.Errorf("%v, %s: it is %s %s %d, and must be %s %s", p, signs(handed), signs(l.Put), signs(l.Take), e, signs(put), signs(take))
		}
	}
	if taken < 50 || left < 50 {
		t.Errorf("hardly tried: %d, %d", taken, left)
	}
}

func TestG2Form(t *testing.T) {
	for n := range 12 {
		l, e := move.Rival(small(), sum, make([]bool, n))
		if want := n == 7; want != (e == api.OK) || !want && (e != api.ErrForm || !reflect.DeepEqual(l, api.Places{})) {
			t.Errorf("%d elements: %v %d", n, l, e)
		}
	}
	if l, e := move.Rival(small(), sum, nil); e != api.ErrForm || !reflect.DeepEqual(l, api.Places{}) {
		t.Errorf("nil: %v %d", l, e)
	}
}

func TestG3Apply(t *testing.T) {
	want := small()
	want.Regs = 4
	want.Nodes[3] = api.Node{Op: api.Copy, D: 2, A: 3, Then: 4}
	want.Nodes[5] = api.Node{Op: api.Copy, D: 2, A: 3, Then: 6}
	want.Nodes = append(want.Nodes, want.Nodes[2])
	want.Nodes[2] = api.Node{Op: api.Add, D: 3, A: 0, B: 1, Then: 7}
	p, e := move.Apply(small(), sum, api.Places{Put: list("..x...."), Take: list("...x.x.")})
	mustBe(t, "Busy's places", p, e, want)

	p, e = move.Apply(small(), sum, api.Places{Put: list("x..x.xx"), Take: list("...x...")})
	mustBe(t, "node 0, a node that is taken, one that is not, and an End", p, e, api.Prog{Regs: 4, Nodes: []api.Node{
		{Op: api.Add, D: 3, A: 0, B: 1, Then: 7},
		{Op: api.In, D: 1, Then: 2},
		{Op: api.If, A: 0, Then: 3, Else: 5},
		{Op: api.Add, D: 3, A: 0, B: 1, Then: 8},
		{Op: api.Out, A: 2, Then: 5},
		{Op: api.Add, D: 3, A: 0, B: 1, Then: 9},
		{Op: api.Add, D: 3, A: 0, B: 1, Then: 10},
		{Op: api.In, D: 0, Then: 1},
		{Op: api.Copy, D: 2, A: 3, Then: 4},
		{Op: api.Add, D: 2, A: 0, B: 1, Then: 6},
		{Op: api.End, A: 2},
	}})

	want = small()
	want.Regs = 4
	p, e = move.Apply(small(), sum, api.Places{Put: make([]bool, 7), Take: make([]bool, 7)})
	mustBe(t, "no places: one register more all the same", p, e, want)

	less := api.Term{Op: api.Less, A: 2, B: 1}
	p, e = move.Apply(api.Prog{Regs: 3, Nodes: []api.Node{{Op: api.Less, D: 2, A: 2, B: 1, Then: 1}, {Op: api.End}}}, less, api.Places{Put: list("x."), Take: list("x.")})
	mustBe(t, "it sets its own register", p, e, api.Prog{Regs: 4, Nodes: []api.Node{
		{Op: api.Less, D: 3, A: 2, B: 1, Then: 2}, {Op: api.End}, {Op: api.Copy, D: 2, A: 3, Then: 1},
	}})
}

func TestG3Form(t *testing.T) {
	for _, c := range []struct{ put, take string }{
		{"", ""}, {"", "......."}, {".......", ""}, {"......", "......."}, {".......", "......"}, {"........", "......."}, {".......", "........"}, {"........", "........"},
		{".......", "x......"}, {".......", "...x..x"}, {"..x....", "..x...."},
	} {
		p, e := move.Apply(small(), sum, api.Places{Put: list(c.put), Take: list(c.take)})
		if e != api.ErrForm || !reflect.DeepEqual(p, api.Prog{}) {
			t.Errorf("%s, %s: %v %d", c.put, c.take, p, e)
		}
	}
	// The right nodes of another term are none of this one.
	for _, u := range []api.Term{{Op: api.Add, A: 1, B: 0}, {Op: api.Sub, A: 0, B: 1}, {Op: api.Add, A: 0, B: 2}, {Op: api.Add}} {
		if p, e := move.Apply(small(), u, api.Places{Put: make([]bool, 7), Take: list("...x...")}); e != api.ErrForm || !reflect.DeepEqual(p, api.Prog{}) {
			t.Errorf("%v: %v %d", u, p, e)
		}
	}
}

// line has so many nodes that reckon the sum, and an End.
func line(sums, regs int) api.Prog {
	p := api.Prog{Regs: regs}
	for n := range sums {
		p.Nodes = append(p.Nodes, api.Node{Op: api.Add, D: 2, A: 0, B: 1, Then: n + 1})
	}
	p.Nodes = append(p.Nodes, api.Node{Op: api.End})
	return p
}

func TestG3Many(t *testing.T) {
	places := func(nodes, puts int) api.Places {
		l := api.Places{Put: make([]bool, nodes), Take: make([]bool, nodes)}
		for n := range puts {
			l.Put[n] = true
		}
		return l
	}
	for _, c := range []struct {
		nodes, puts, regs int
		want              api.Errno
	}{
		{7, 7, 63, api.OK}, {7, 0, 64, api.ErrMany}, {7, 1, 64, api.ErrMany},
		{128, 128, 3, api.OK}, {129, 128, 3, api.ErrMany}, {129, 127, 3, api.OK}, {256, 0, 3, api.OK}, {256, 1, 3, api.ErrMany}, {256, 256, 64, api.ErrMany},
	} {
		p, e := move.Apply(line(c.nodes-1, c.regs), sum, places(c.nodes, c.puts))
		if e != c.want || (e == api.OK) != (len(p.Nodes) == c.nodes+c.puts && p.Regs == c.regs+1) || e != api.OK && !reflect.DeepEqual(p, api.Prog{}) {
			t.Errorf("%v: %d nodes %d registers %d", c, len(p.Nodes), p.Regs, e)
		}
	}
	// What is of the wrong form is so, however many there would be.
	if _, e := move.Apply(line(255, 64), sum, places(255, 255)); e != api.ErrForm {
		t.Errorf("ErrForm is named ahead of ErrMany: %d", e)
	}
}

// applied is what G3 says, word by word.
func applied(p api.Prog, u api.Term, l api.Places) api.Prog {
	q := api.Prog{Regs: p.Regs + 1, Nodes: slices.Clone(p.Nodes)}
	for n := range p.Nodes {
		if l.Take[n] {
			q.Nodes[n].Op, q.Nodes[n].A, q.Nodes[n].B = api.Copy, p.Regs, 0
		}
	}
	for n := range p.Nodes {
		if l.Put[n] {
			was := q.Nodes[n]
			q.Nodes = append(q.Nodes, was)
			q.Nodes[n] = api.Node{Op: u.Op, D: p.Regs, A: u.A, B: u.B, Then: len(q.Nodes) - 1}
		}
	}
	return q
}

func TestG3OfDrawnPrograms(t *testing.T) {
	r := draw(3)
	for range 500 {
		p := drawn(&r, 2+r.below(12))
		l := api.Places{Put: r.bools(len(p.Nodes)), Take: r.bools(len(p.Nodes))}
		for n, x := range p.Nodes {
			l.Take[n] = l.Take[n] && reckons(x, sum)
		}
		q, e := move.Apply(p, sum, l)
		mustBe(t, "applied", q, e, applied(p, sum, l))
	}
}

func TestG4One(t *testing.T) {
	p, e := move.One(small(), sum)
	mustBe(t, "example 7", p, e, api.Prog{Regs: 4, Nodes: []api.Node{
		{Op: api.In, D: 0, Then: 1},
		{Op: api.In, D: 1, Then: 2},
		{Op: api.If, A: 0, Then: 3, Else: 7},
		{Op: api.Add, D: 3, A: 0, B: 1, Then: 9},
		{Op: api.Out, A: 2, Then: 8},
		{Op: api.Copy, D: 2, A: 3, Then: 6},
		{Op: api.End, A: 2},
		{Op: api.Add, D: 3, A: 0, B: 1, Then: 10},
		{Op: api.Skip, Then: 5},
		{Op: api.Copy, D: 2, A: 3, Then: 4},
		{Op: api.Skip, Then: 5},
	}})
	// Nothing of it may be come to by node 4; with nothing to be moved it stays, and no edge is split.
	still := api.Prog{Regs: 3, Nodes: []api.Node{{Op: api.If, Then: 1, Else: 2}, {Op: api.Add, D: 2, A: 0, B: 1, Then: 2}, {Op: api.If, Then: 2, Else: 3}, {Op: api.End}, {Op: api.Add, D: 2, A: 0, B: 1, Then: 2}}}
	p, e = move.One(still, sum)
	mustBe(t, "nothing to be moved", p, e, still)
	p, e = move.One(small(), api.Term{Op: api.Mul, A: 2, B: 2})
	mustBe(t, "a term that nobody reckons", p, e, small())
}

func TestG4OneOfDrawnPrograms(t *testing.T) {
	r := draw(4)
	for range 1000 {
		p := drawn(&r, 2+r.below(14))
		q := split(t, p)
		l, e := move.Lazy(q, sum)
		if e != api.OK {
			t.Fatalf("%v: %d", q, e)
		}
		want := p
		if slices.Contains(l.Put, true) || slices.Contains(l.Take, true) {
			want = applied(q, sum, l)
		}
		q, e = move.One(p, sum)
		mustBe(t, "One", q, e, want)
	}
}

func TestG4All(t *testing.T) {
	p := api.Prog{Regs: 2, Nodes: []api.Node{
		{Op: api.Sub, D: 1, A: 0, B: 0, Then: 1},
		{Op: api.Add, D: 1, A: 0, B: 0, Then: 2},
		{Op: api.Sub, D: 1, A: 0, B: 0, Then: 3},
		{Op: api.Add, D: 1, A: 0, B: 0, Then: 4},
		{Op: api.End, A: 1},
	}}
	q, e := move.All(p)
	mustBe(t, "two terms, in the order of Terms", q, e, api.Prog{Regs: 4, Nodes: []api.Node{
		{Op: api.Sub, D: 2, A: 0, B: 0, Then: 5},
		{Op: api.Add, D: 3, A: 0, B: 0, Then: 6},
		{Op: api.Copy, D: 1, A: 2, Then: 3},
		{Op: api.Copy, D: 1, A: 3, Then: 4},
		{Op: api.End, A: 1},
		{Op: api.Copy, D: 1, A: 2, Then: 1},
		{Op: api.Copy, D: 1, A: 3, Then: 2},
	}})
	still := api.Prog{Regs: 1, Nodes: []api.Node{{Op: api.If, Then: 2, Else: 1}, {Op: api.Skip, Then: 2}, {Op: api.End}, {Op: api.End}}}
	q, e = move.All(still)
	mustBe(t, "no term", q, e, still)
}

func TestG4AllOfDrawnPrograms(t *testing.T) {
	r := draw(5)
	several := 0
	for range 500 {
		p := drawn(&r, 2+r.below(20))
		terms, _ := prog.Terms(p)
		want := p
		for _, u := range terms {
			var e api.Errno
			want, e = move.One(want, u)
			if e != api.OK {
				t.Fatalf("%v: %d", p, e)
			}
		}
		if want.Regs > p.Regs+1 {
			several++
		}
		q, e := move.All(p)
		mustBe(t, "All", q, e, want)
	}
	if several < 10 {
		t.Errorf("hardly tried: %d", several)
	}
}

func TestG4Many(t *testing.T) {
	none := func(what string, p api.Prog, e, want api.Errno) {
		t.Helper()
		if e != want || !reflect.DeepEqual(p, api.Prog{}) {
			t.Errorf("%s: %d nodes, %d, not %d", what, len(p.Nodes), e, want)
		}
	}
	full := small()
	full.Regs = api.MaxRegs
	p, e := move.One(full, sum)
	none("no register left", p, e, api.ErrMany)
	p, e = move.All(full)
	none("no register left, All", p, e, api.ErrMany)
	p, e = move.One(full, api.Term{Op: api.Sub})
	mustBe(t, "none is needed", p, e, full)

	p, e = move.One(line(255, 3), sum)
	none("no node left", p, e, api.ErrMany)
	if p, e = move.One(line(254, 3), sum); e != api.OK || len(p.Nodes) != api.MaxNodes {
		t.Errorf("one node left: %d nodes, %d", len(p.Nodes), e)
	}

	// 200 nodes that lead to the last one: too many, once they are split, even if nothing would be moved.
	fan := api.Prog{Regs: 2}
	for n := range 200 {
		fan.Nodes = append(fan.Nodes, api.Node{Op: api.If, Then: n + 1, Else: 200})
	}
	fan.Nodes = append(fan.Nodes, api.Node{Op: api.Add, A: 1, Then: 201}, api.Node{Op: api.End})
	p, e = move.One(fan, api.Term{Op: api.Add, A: 1})
	none("no room to split", p, e, api.ErrMany)
	p, e = move.One(fan, api.Term{Op: api.Copy})
	none("split first, and then looked for a term", p, e, api.ErrMany)
	p, e = move.All(fan)
	none("no room to split, All", p, e, api.ErrMany)
	// Trimmed first, it has room enough.
	fan.Nodes[0] = api.Node{Op: api.Skip, Then: 201}
	p, e = move.One(fan, api.Term{Op: api.Add, A: 1})
	mustBe(t, "trimmed", p, e, fan)
}

func mustRun(t *testing.T, p api.Prog, in []int, fuel int) api.Result {
	t.Helper()
	r, e := run.Run(p, in, fuel)
	if e != api.OK {
		t.Fatalf("%v: %d", p, e)
	}
	return r
}

func TestG5Example(t *testing.T) {
	p, _ := move.One(small(), sum)
	for _, c := range []struct{ a, b, tells int }{{4, 5, 1}, {0, 5, 0}} {
		x := mustRun(t, p, []int{c.a, c.b}, 100)
		if !x.Ended || x.Ret != c.a+c.b || len(x.Out) != c.tells || run.Times(x, sum) != 1 {
			t.Errorf("%v: %v", c, x)
		}
	}
}

// others are how often terms were reckoned, but for one.
func others(r api.Result, u api.Term) []api.Count {
	return slices.DeleteFunc(slices.Clone(r.Counts), func(c api.Count) bool { return c.Term == u })
}

// rivals are the program with the sum moved by Busy, and by places that are drawn.
func rivals(t *testing.T, r *draw, p api.Prog) []api.Prog {
	t.Helper()
	l, e := move.Busy(p, sum)
	if e != api.OK {
		t.Fatalf("%v: %d", p, e)
	}
	all := []api.Places{l}
	for range 4 {
		l, e := move.Rival(p, sum, r.bools(len(p.Nodes)))
		if e != api.OK {
			t.Fatalf("%v: %d", p, e)
		}
		all = append(all, l)
	}
	var out []api.Prog
	for _, l := range all {
		q, e := move.Apply(p, sum, l)
		if e != api.OK {
			t.Fatalf("%v: %d", p, e)
		}
		out = append(out, q)
	}
	return out
}

func TestG5NoMoreOften(t *testing.T) {
	r := draw(6)
	ended, fewer, beaten := 0, 0, 0
	for range 4000 {
		p := drawn(&r, 3+r.below(14))
		q, e := move.One(p, sum)
		if e != api.OK {
			t.Fatalf("%v: %d", p, e)
		}
		against := rivals(t, &r, split(t, p))
		for range 3 {
			in := []int{r.below(2), r.below(3) - 1, r.below(2), r.below(2)}
			x := mustRun(t, p, in, 100)
			if !x.Ended {
				continue
			}
			ended++
			y := mustRun(t, q, in, 400)
			if !y.Ended || y.Ret != x.Ret || !slices.Equal(x.Out, y.Out) {
				t.Fatalf("%v with %v: %v, and moved %v", p, in, x, y)
			}
			if run.Times(y, sum) > run.Times(x, sum) || !slices.Equal(others(x, sum), others(y, sum)) {
				t.Fatalf("%v with %v: %v, and moved %v", p, in, x.Counts, y.Counts)
			}
			if run.Times(y, sum) < run.Times(x, sum) {
				fewer++
			}
			for _, other := range against {
				z := mustRun(t, other, in, 400)
				if !z.Ended || z.Ret != x.Ret || !slices.Equal(x.Out, z.Out) || !slices.Equal(others(x, sum), others(z, sum)) {
					t.Fatalf("%v with %v: %v, and by a rival %v", p, in, x, z)
				}
				if run.Times(z, sum) < run.Times(y, sum) {
					t.Fatalf("%v with %v: a rival reckons it %d times, and Lazy %d", p, in, run.Times(z, sum), run.Times(y, sum))
				}
				if run.Times(z, sum) > run.Times(y, sum) {
					beaten++
				}
			}
		}
	}
	if ended < 1000 || fewer < 100 || beaten < 100 {
		t.Errorf("hardly tried: %d, %d, %d", ended, fewer, beaten)
	}
}

func TestG5WhatNeverEnds(t *testing.T) {
	r := draw(7)
	tried := 0
	for range 2000 {
		p := drawn(&r, 3+r.below(10))
		q, _ := move.All(p)
		in := []int{r.below(2), r.below(3) - 1}
		x, y := mustRun(t, p, in, 60), mustRun(t, q, in, 60)
		if x.Ended || same(p, q) {
			continue
		}
		tried++
		// What the one has told by then the other tells in time.
		for _, c := range [][2]api.Result{{x, mustRun(t, q, in, 2000)}, {y, mustRun(t, p, in, 2000)}} {
			if len(c[0].Out) > len(c[1].Out) || !slices.Equal(c[0].Out, c[1].Out[:len(c[0].Out)]) {
				t.Fatalf("%v with %v: %v, %v", p, in, c[0].Out, c[1].Out)
			}
		}
	}
	if tried < 50 {
		t.Errorf("hardly tried: %d", tried)
	}
}

func TestG5OnceMore(t *testing.T) {
	r := draw(8)
	moved := 0
	for range 4000 {
		p := drawn(&r, 3+r.below(20))
		q, e := move.One(p, sum)
		if e != api.OK {
			t.Fatalf("%v: %d", p, e)
		}
		if !same(p, q) {
			moved++
		}
		again, e := move.One(q, sum)
		mustBe(t, "once more", again, e, q)
	}
	if moved < 200 {
		t.Errorf("hardly tried: %d", moved)
	}
}

// calls are all six, each with whatever it takes beside a program and a term.
func calls(l []bool) map[string]func(api.Prog, api.Term) (any, api.Errno) {
	return map[string]func(api.Prog, api.Term) (any, api.Errno){
		"Lazy":  func(p api.Prog, u api.Term) (any, api.Errno) { x, e := move.Lazy(p, u); return x, e },
		"Busy":  func(p api.Prog, u api.Term) (any, api.Errno) { x, e := move.Busy(p, u); return x, e },
		"Rival": func(p api.Prog, u api.Term) (any, api.Errno) { x, e := move.Rival(p, u, l); return x, e },
		"Apply": func(p api.Prog, u api.Term) (any, api.Errno) {
			x, e := move.Apply(p, u, api.Places{Put: l, Take: make([]bool, len(l))})
			return x, e
		},
		"One": func(p api.Prog, u api.Term) (any, api.Errno) { x, e := move.One(p, u); return x, e },
		"All": func(p api.Prog, _ api.Term) (any, api.Errno) { x, e := move.All(p); return x, e },
	}
}

func zero(x any) bool { return reflect.ValueOf(x).IsZero() }

func TestG1G2G3G4ErrorsOfChapter6(t *testing.T) {
	for _, l := range [][]bool{nil, make([]bool, 7), make([]bool, 99)} { // a wrong form of places counts behind them
		for name, call := range calls(l) {
			if name == "All" {
				continue
			}
			for _, c := range []struct {
				u    api.Term
				want api.Errno
			}{
				{api.Term{}, api.ErrKind}, {api.Term{Op: api.Copy}, api.ErrKind}, {api.Term{Op: api.In}, api.ErrKind}, {api.Term{Op: -1, A: -1}, api.ErrKind}, {api.Term{Op: math.MaxInt}, api.ErrKind},
				{api.Term{Op: api.Add, A: 3}, api.ErrRange}, {api.Term{Op: api.Less, B: -1}, api.ErrRange}, {api.Term{Op: api.Mul, A: math.MinInt, B: math.MaxInt}, api.ErrRange},
			} {
				if x, e := call(small(), c.u); e != c.want || !zero(x) {
					t.Errorf("%s %v: %v %d, not %d", name, c.u, x, e, c.want)
				}
			}
		}
	}
}

func TestP1ErrorsOfTheProgramFirst(t *testing.T) {
	for want, l := range map[api.Errno][]api.Prog{
		api.ErrMany:  {{}, {Regs: 1}, {Regs: 65, Nodes: []api.Node{{Op: api.End}}}, {Regs: 1, Nodes: make([]api.Node, 257)}},
		api.ErrKind:  {{Regs: 1, Nodes: []api.Node{{Op: 13}}}, {Regs: 1, Nodes: []api.Node{{Op: api.End, A: 5}, {Op: -1}}}},
		api.ErrRange: {{Regs: 1, Nodes: []api.Node{{Op: api.Skip}}}, {Regs: 1, Nodes: []api.Node{{Op: api.Skip, Then: math.MinInt}}}},
		api.ErrForm:  {{Regs: 1, Nodes: []api.Node{{Op: api.End, Then: 1}}}, {Regs: 1, Nodes: []api.Node{{Op: api.End}, {Op: api.End, B: 1}}}},
	} {
		for _, p := range l {
			for _, u := range []api.Term{{Op: api.Add}, {Op: api.Add, A: 99}, {Op: 99}} {
				for name, call := range calls(nil) {
					if x, e := call(p, u); e != want || !zero(x) {
						t.Errorf("%s %v %v: %v %d, not %d", name, p, u, x, e, want)
					}
				}
			}
		}
	}
}

func TestP1WhateverIsHandedIn(t *testing.T) {
	r := draw(9)
	odd := []int{math.MinInt, -1, 0, 0, 1, 1, 2, 3, 12, 13, 64, 256, math.MaxInt}
	pick := func() int { return odd[r.below(len(odd))] }
	for range 3000 {
		p := api.Prog{Regs: pick()}
		for range r.below(4) {
			p.Nodes = append(p.Nodes, api.Node{Op: r.below(14), D: pick(), A: pick(), B: pick(), Then: pick(), Else: pick()})
		}
		u := api.Term{Op: pick(), A: pick(), B: pick()}
		for name, call := range calls(r.bools(r.below(5))) {
			x, e := call(p, u)
			if c := prog.Check(p); c != api.OK && e != c {
				t.Errorf("%s %v: %d, not %d", name, p, e, c)
			}
			if e != api.OK && !zero(x) {
				t.Errorf("%s %v: %v beside error %d", name, p, x, e)
			}
		}
	}
}

func TestP2OnlyReadAndNewPrograms(t *testing.T) {
	still := api.Term{Op: api.Sub}
	l := list("..x....")
	for _, u := range []api.Term{sum, still} { // of the other one nothing is moved, and the program comes out as it is
		for name, call := range calls(l) {
			room := append(small().Nodes, make([]api.Node, 20)...)
			for i := range room[7:] {
				room[7+i] = api.Node{Op: 99, D: i}
			}
			kept := slices.Clone(room)
			p := api.Prog{Regs: 3, Nodes: room[:7]}
			x, e := call(p, u)
			was, _ := call(p, u)
			if e != api.OK {
				t.Fatalf("%s: %d", name, e)
			}
			if q, ok := x.(api.Prog); ok {
				for i := range q.Nodes {
					q.Nodes[i] = api.Node{Op: -5}
				}
				_ = append(q.Nodes, api.Node{Op: -6})
			}
			if !slices.Equal(room, kept) {
				t.Errorf("%s: what was handed in is changed: %v", name, room)
			}
			if again, _ := call(p, u); !reflect.DeepEqual(again, was) {
				t.Errorf("%s: an answer is kept: %v", name, again)
			}
		}
	}
	if signs(l) != "..x...." {
		t.Errorf("places are changed: %s", signs(l))
	}
	// All of a program without terms is a new one too.
	p := api.Prog{Regs: 1, Nodes: []api.Node{{Op: api.End}}}
	q, _ := move.All(p)
	q.Nodes[0].Op = api.Skip
	if p.Nodes[0].Op != api.End {
		t.Error("All shares memory with what was handed in")
	}
}

func TestP2PlacesAreNew(t *testing.T) {
	room := list("xxxxxxx.x")
	handed := room[:7]
	for name, call := range map[string]func() (api.Places, api.Errno){
		"Lazy":  func() (api.Places, api.Errno) { return move.Lazy(small(), sum) },
		"Busy":  func() (api.Places, api.Errno) { return move.Busy(small(), sum) },
		"Rival": func() (api.Places, api.Errno) { return move.Rival(small(), sum, handed) },
	} {
		l, e := call()
		was, _ := call()
		if e != api.OK {
			t.Fatalf("%s: %d", name, e)
		}
		for i := range l.Put {
			l.Put[i] = !l.Put[i]
		}
		_ = append(l.Put, true, true)
		if !slices.Equal(l.Take, was.Take) {
			t.Errorf("%s: Put and Take share memory", name)
		}
		for i := range l.Take {
			l.Take[i] = !l.Take[i]
		}
		_ = append(l.Take, true, true)
		if again, _ := call(); !reflect.DeepEqual(again, was) || signs(room) != "xxxxxxx.x" {
			t.Errorf("%s: an answer is kept, or what was handed in is changed: %v", name, again)
		}
	}
}

func TestP3NothingIsKept(t *testing.T) {
	p := small()
	for range 3 {
		p.Nodes[3].B = 2
		l, e := move.Lazy(p, sum)
		mustLie(t, "another term at node 3", l, e, ".......", ".......")
		q, e := move.One(p, sum)
		mustBe(t, "another term at node 3", q, e, p)
		p.Nodes[3].B = 1
		l, e = move.Lazy(p, sum)
		mustLie(t, "the same term at node 3", l, e, "..xx...", "...x.x.")
		if q, e := move.One(p, sum); e != api.OK || len(q.Nodes) != 11 {
			t.Errorf("%v %d", q, e)
		}
	}
}

// terms has 30 terms, one behind the other, and all that four times.
func terms(regs int) api.Prog {
	p := api.Prog{Regs: regs}
	for range 4 {
		for k := range 30 {
			p.Nodes = append(p.Nodes, api.Node{Op: api.Mul, D: 31, A: k, B: k, Then: len(p.Nodes) + 1})
		}
	}
	p.Nodes = append(p.Nodes, api.Node{Op: api.End, A: 31})
	return p
}

func TestP4AsManyRegistersAsThereMayBe(t *testing.T) {
	q, e := move.All(terms(api.MaxRegs - 30))
	if e != api.OK || q.Regs != api.MaxRegs || len(q.Nodes) != 151 {
		t.Fatalf("%d registers, %d nodes, %d", q.Regs, len(q.Nodes), e)
	}
	counts := mustRun(t, q, nil, 1000).Counts
	if len(counts) != 30 || slices.ContainsFunc(counts, func(c api.Count) bool { return c.N != 1 }) {
		t.Errorf("%v", counts)
	}
	// For the last term alone there is no room any more.
	if q, e := move.All(terms(api.MaxRegs - 29)); e != api.ErrMany || !reflect.DeepEqual(q, api.Prog{}) {
		t.Errorf("%v %d", q, e)
	}
}
