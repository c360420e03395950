package text_test

import (
	"math"
	"reflect"
	"runtime"
	"slices"
	"strconv"
	"strings"
	"testing"

	"hoistway/api"
	"hoistway/text"
)

// every has a node of each operation.
func every() api.Prog {
	return api.Prog{Regs: 14, Nodes: []api.Node{
		{Op: api.Skip, Then: 1},
		{Op: api.Set, D: 0, A: -7, Then: 2},
		{Op: api.Copy, D: 1, A: 0, Then: 3},
		{Op: api.Add, D: 2, A: 1, B: 0, Then: 4},
		{Op: api.Sub, D: 3, A: 2, B: 1, Then: 5},
		{Op: api.Mul, D: 4, A: 3, B: 2, Then: 6},
		{Op: api.And, D: 5, A: 4, B: 3, Then: 7},
		{Op: api.Xor, D: 6, A: 5, B: 4, Then: 8},
		{Op: api.Less, D: 7, A: 6, B: 5, Then: 9},
		{Op: api.In, D: 8, Then: 10},
		{Op: api.Out, A: 9, Then: 11},
		{Op: api.If, A: 10, Then: 12, Else: 1},
		{Op: api.End, A: 13},
	}}
}

const everyText = `regs 14
skip to 1
set 0 -7 to 2
copy 1 0 to 3
add 2 1 0 to 4
sub 3 2 1 to 5
mul 4 3 2 to 6
and 5 4 3 to 7
xor 6 5 4 to 8
less 7 6 5 to 9
in 8 to 10
out 9 to 11
if 10 to 12 else 1
end 13
`

func TestB1EveryOperation(t *testing.T) {
	if s, e := text.Show(every()); e != api.OK || s != everyText {
		t.Errorf("%d %s", e, s)
	}
	if p, e := text.Read(everyText); e != api.OK || !reflect.DeepEqual(p, every()) {
		t.Errorf("%d %v", e, p)
	}
}

func TestB1Numbers(t *testing.T) {
	for _, v := range []int{0, 1, -1, 9, 10, -10, 100, 1 << 40, math.MaxInt, math.MinInt} {
		p := api.Prog{Regs: 1, Nodes: []api.Node{{Op: api.Set, A: v, Then: 1}, {Op: api.End}}}
		want := "regs 1\nset 0 " + strconv.Itoa(v) + " to 1\nend 0\n"
		if s, e := text.Show(p); e != api.OK || s != want {
			t.Errorf("%d: %d %q", v, e, s)
		}
		if q, e := text.Read(want); e != api.OK || !reflect.DeepEqual(p, q) {
			t.Errorf("%d: %d %v", v, e, q)
		}
	}
}

func TestB1ShowTellsCheck(t *testing.T) {
	for _, c := range []struct {
		p    api.Prog
		want api.Errno
	}{
		{api.Prog{}, api.ErrMany},
		{api.Prog{Regs: 65, Nodes: []api.Node{{Op: api.End}}}, api.ErrMany},
		{api.Prog{Regs: 1, Nodes: []api.Node{{Op: 13}}}, api.ErrKind},
		{api.Prog{Regs: 1, Nodes: []api.Node{{Op: api.End, A: 1}}}, api.ErrRange},
		{api.Prog{Regs: 1, Nodes: []api.Node{{Op: api.Skip}}}, api.ErrRange},
		{api.Prog{Regs: 1, Nodes: []api.Node{{Op: api.End, B: 1}}}, api.ErrForm},
		{api.Prog{Regs: 1, Nodes: []api.Node{{Op: api.End, B: 1}, {Op: -1}}}, api.ErrKind},
	} {
		if s, e := text.Show(c.p); e != c.want || s != "" {
			t.Errorf("%v: %d %q, not %d", c.p, e, s, c.want)
		}
	}
}

// wrong are texts of which each is close to one that is shown.
var wrong = []string{
	"", "\n", " ", "regs", "regs\n", "regs 1", "regs 1\n", "regs 1\n\n", "end 0\n", "\xff", "regs \x00\nend 0\n",
	"regs 1\nend 0", "regs 1\nend 0\n\n", "\nregs 1\nend 0\n", "regs 1\n\nend 0\n", "regs 1\nend 0\nregs 1\n",
	"regs 1\r\nend 0\r\n", "regs 1\nend 0\r", "regs 1\tend 0\n", "regs 1\nend\t0\n", "regs 1\nend\u00a00\n",
	"Regs 1\nend 0\n", "regs 1\nEnd 0\n", "reg 1\nend 0\n", "1\nend 0\n", "regs regs 1\nend 0\n", "regs 1 1\nend 0\n",
	" regs 1\nend 0\n", "regs  1\nend 0\n", "regs 1 \nend 0\n", "regs 1\n end 0\n", "regs 1\nend  0\n", "regs 1\nend 0 \n",
	"regs 01\nend 0\n", "regs +1\nend 0\n", "regs -1\nend 0\n", "regs 0\nend 0\n", "regs 65\nend 0\n", "regs 0x1\nend 0\n", "regs x\nend 0\n",
	"regs 18446744073709551617\nend 0\n",
	"regs 1\nend\n", "regs 1\nend 00\n", "regs 1\nend -0\n", "regs 1\nend +0\n", "regs 1\nend 1\n", "regs 1\nend -1\n", "regs 1\nend 0 0\n", "regs 1\nend a\n",
	"regs 1\nend 0 to 0\n", "regs 1\nend 0 to 1\nend 0\n", "regs 1\nstop 0\n", "regs 1\n0\n", "regs 1\n 0\n",
	"regs 1\nskip\nend 0\n", "regs 1\nskip 1\nend 0\n", "regs 1\nskip to\nend 0\n", "regs 1\nskip to 0\nend 0\n", "regs 1\nskip to 2\nend 0\n", "regs 1\nskip to 1 else 1\nend 0\n",
	"regs 1\nskip at 1\nend 0\n", "regs 1\nskip else 1\nend 0\n", "regs 1\nskip  1\nend 0\n", "regs 1\nskip 0 to 1\nend 0\n", "regs 1\nskip to to 1\nend 0\n",
	"regs 1\nset 0 -0 to 1\nend 0\n", "regs 1\nset 0 01 to 1\nend 0\n", "regs 1\nset 0 -01 to 1\nend 0\n", "regs 1\nset 0 +1 to 1\nend 0\n", "regs 1\nset 0 - to 1\nend 0\n", "regs 1\nset 0 --1 to 1\nend 0\n",
	"regs 1\nset 0 1_0 to 1\nend 0\n", "regs 1\nset 0 1e3 to 1\nend 0\n", "regs 1\nset 0 \u0661 to 1\nend 0\n", "regs 1\nset 0 to 1\nend 0\n", "regs 1\nset 1 0 to 1\nend 0\n",
	"regs 1\nset 0 9223372036854775808 to 1\nend 0\n", "regs 1\nset 0 -9223372036854775809 to 1\nend 0\n", "regs 1\nset 0 18446744073709551616 to 1\nend 0\n",
	"regs 1\nadd 0 0 to 1\nend 0\n", "regs 1\nadd 0 0 0 0 to 1\nend 0\n", "regs 1\nadd 0 0 1 to 1\nend 0\n", "regs 1\nin 0 0 to 1\nend 0\n", "regs 1\nin to 1\nend 0\n",
	"regs 1\nif 0 to 1\nend 0\n", "regs 1\nif 0 else 1 to 1\nend 0\n", "regs 1\nif 0 to 1 else\nend 0\n", "regs 1\nif 0 to 1 else 0\nend 0\n", "regs 1\nif 0 to 1 to 1\nend 0\n", "regs 1\nif 0 else 1\nend 0\n", "regs 1\nif 0 to 1 else 1 \nend 0\n",
}

func TestB1WrongTexts(t *testing.T) {
	for _, s := range wrong {
		if p, e := text.Read(s); e != api.ErrForm || !reflect.DeepEqual(p, api.Prog{}) {
			t.Errorf("%q: %d %v", s, e, p)
		}
	}
}

func TestB1MostLines(t *testing.T) {
	most := "regs 64\n" + strings.Repeat("end 63\n", api.MaxNodes)
	p, e := text.Read(most)
	if e != api.OK || len(p.Nodes) != api.MaxNodes || p.Regs != 64 || p.Nodes[255] != (api.Node{Op: api.End, A: 63}) {
		t.Errorf("%d, %d nodes", e, len(p.Nodes))
	}
	if q, e := text.Read(most + "end 63\n"); e != api.ErrForm || q.Nodes != nil || q.Regs != 0 {
		t.Errorf("one more: %d", e)
	}
}

// longest is the program of which most bytes are shown.
func longest() api.Prog {
	p := api.Prog{Regs: api.MaxRegs}
	for range api.MaxNodes {
		p.Nodes = append(p.Nodes, api.Node{Op: api.Set, D: 63, A: math.MinInt, Then: 255})
	}
	return p
}

// draw: numbers that are the same each time.
type draw uint64

func (d *draw) below(n int) int {
	*d = *d*6364136223846793005 + 1442695040888963407
	return int(uint64(*d) >> 33 % uint64(n))
}

func drawn(r *draw) api.Prog {
	p := api.Prog{Regs: 1 + r.below(64)}
	n := 2 + r.below(40)
	reg := func() int { return r.below(p.Regs) }
	to := func() int { return 1 + r.below(n-1) }
	for range n {
		x := api.Node{Op: r.below(13), Then: to()}
		switch x.Op {
		case api.Skip:
		case api.Set:
			x.D, x.A = reg(), int(uint(r.below(1<<31))<<r.below(40))-r.below(1<<31)
		case api.Copy:
			x.D, x.A = reg(), reg()
		case api.In:
			x.D = reg()
		case api.Out:
			x.A = reg()
		case api.If:
			x.A, x.Else = reg(), to()
		case api.End:
			x.A, x.Then = reg(), 0
		default:
			x.D, x.A, x.B = reg(), reg(), reg()
		}
		p.Nodes = append(p.Nodes, x)
	}
	return p
}

func TestB2WhatIsShownIsReadAsItWas(t *testing.T) {
	progs := []api.Prog{every(), longest()}
	r := draw(3)
	for range 500 {
		progs = append(progs, drawn(&r))
	}
	for _, p := range progs {
		s, e := text.Show(p)
		q, f := text.Read(s)
		if e != api.OK || f != api.OK || !reflect.DeepEqual(p, q) {
			t.Fatalf("%d %d %q\n%v\n%v", e, f, s, p, q)
		}
	}
}

func TestB2NothingElseIsRead(t *testing.T) {
	asShown := func(s string) {
		p, e := text.Read(s)
		back, f := text.Show(p)
		switch {
		case e == api.OK && (f != api.OK || back != s):
			t.Errorf("read, but not shown so: %q", s)
		case e != api.OK && (e != api.ErrForm || !reflect.DeepEqual(p, api.Prog{})):
			t.Errorf("%q: %d %v", s, e, p)
		}
	}
	for i := range len(everyText) {
		asShown(everyText[:i])
		asShown(everyText[:i] + everyText[i+1:])
		for _, c := range "0 1-+\nt\x00\r" {
			asShown(everyText[:i] + string(c) + everyText[i+1:])
			asShown(everyText[:i] + string(c) + everyText[i:])
		}
	}
}

func TestP2OnlyReadAndNew(t *testing.T) {
	room := append(every().Nodes, api.Node{Op: 77, D: 5})
	kept := slices.Clone(room)
	if _, e := text.Show(api.Prog{Regs: 14, Nodes: room[:13]}); e != api.OK {
		t.Error(e)
	}
	if !slices.Equal(room, kept) {
		t.Errorf("what was handed in is changed: %v", room)
	}
	p, _ := text.Read(everyText)
	p.Nodes[0].Then = 9
	if q, _ := text.Read(everyText); !reflect.DeepEqual(q, every()) {
		t.Error("an answer is kept")
	}
}

func TestP3TheSameAgain(t *testing.T) {
	for range 50 {
		if s, e := text.Show(every()); e != api.OK || s != everyText {
			t.Fatalf("%d %q", e, s)
		}
		if _, e := text.Read("regs 1\n"); e != api.ErrForm {
			t.Fatal(e)
		}
	}
}

func TestP4LongTexts(t *testing.T) {
	const n = 1 << 25
	for _, s := range []string{
		strings.Repeat("\n", n),
		strings.Repeat(" ", n),
		"regs 1\n" + strings.Repeat("end 0\n", n/6),
		"regs 1\nend " + strings.Repeat("0", n) + "\n",
		"regs " + strings.Repeat("9", n) + "\nend 0\n",
		"regs 1\nend 0" + strings.Repeat(" 0", n/2) + "\n",
	} {
		var before, after runtime.MemStats
		runtime.ReadMemStats(&before)
		p, e := text.Read(s)
		runtime.ReadMemStats(&after)
		if e != api.ErrForm || !reflect.DeepEqual(p, api.Prog{}) {
			t.Errorf("%.20q..: %d", s, e)
		}
		// A text at the bound of P4 must not ask for many times its own size.
		if used := after.TotalAlloc - before.TotalAlloc; used > n {
			t.Errorf("%.20q..: %d bytes taken", s, used)
		}
	}
}
