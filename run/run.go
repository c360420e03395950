// Package run: runs: see doc/03-run.md.
package run

import (
	"cmp"
	"slices"

	"hoistway/api"
	"hoistway/prog"
	"hoistway/shape"
)

// Run does a program's nodes, beginning at node 0, and answers what came of it.
func Run(p api.Prog, in []int, fuel int) (api.Result, api.Errno) {
	if e := prog.Check(p); e != api.OK {
		return api.Result{}, e
	}
	if len(in) > api.MaxIn {
		return api.Result{}, api.ErrMany
	}
	if fuel < 0 || fuel > api.MaxFuel {
		return api.Result{}, api.ErrRange
	}
	m := machine{nodes: p.Nodes, in: in, regs: make([]int, p.Regs), times: map[api.Term]int{}}
	for !m.Ended && m.Steps < fuel {
		m.step()
	}
	m.Counts = counts(m.times)
	return m.Result, api.OK
}

// Times answers how often a term was reckoned.
func Times(r api.Result, t api.Term) int {
	for _, c := range r.Counts {
		if c.Term == t {
			return c.N
		}
	}
	return 0
}

// machine is a run under way; what it has come to so far is its own.
type machine struct {
	api.Result
	nodes []api.Node
	at    int   // the node to be done next
	in    []int // the numbers that have not come in yet
	regs  []int
	times map[api.Term]int
}

func (m *machine) step() {
	x := m.nodes[m.at]
	m.Steps++
	m.at = x.Then
	switch x.Op {
	case api.Skip:
	case api.Set:
		m.regs[x.D] = x.A
	case api.Copy:
		m.regs[x.D] = m.regs[x.A]
	case api.In:
		m.regs[x.D] = m.comeIn()
	case api.Out:
		m.Out = append(m.Out, m.regs[x.A])
	case api.If:
		if m.regs[x.A] == 0 {
			m.at = x.Else
		}
	case api.End:
		m.Ret, m.Ended = m.regs[x.A], true
	default:
		m.reckon(x)
	}
}

func (m *machine) comeIn() int {
	if len(m.in) == 0 {
		return 0
	}
	v := m.in[0]
	m.in = m.in[1:]
	return v
}

func (m *machine) reckon(x api.Node) {
	if t, ok := shape.Term(x); ok {
		m.regs[x.D] = value(t.Op, m.regs[t.A], m.regs[t.B])
		m.times[t]++
	}
}

func value(op, a, b int) int {
	switch op {
	case api.Add:
		return a + b
	case api.Sub:
		return a - b
	case api.Mul:
		return a * b
	case api.And:
		return a & b
	case api.Xor:
		return a ^ b
	}
	if a < b { // Less is all that is left
		return 1
	}
	return 0
}

// counts sorts, since a map is gone through in no order that could be told.
func counts(times map[api.Term]int) []api.Count {
	var l []api.Count
	for t, n := range times {
		l = append(l, api.Count{Term: t, N: n})
	}
	slices.SortFunc(l, func(x, y api.Count) int {
		return cmp.Or(cmp.Compare(x.Term.Op, y.Term.Op), cmp.Compare(x.Term.A, y.Term.A), cmp.Compare(x.Term.B, y.Term.B))
	})
	return l
}
