// Package prog: programs: see doc/01-prog.md.
package prog

import (
	"slices"

	"hoistway/api"
	"hoistway/links"
	"hoistway/shape"
)

// Check tells the first thing that is wrong with a program, or OK.
func Check(p api.Prog) api.Errno {
	if !within(len(p.Nodes), 1, api.MaxNodes) || !within(p.Regs, 1, api.MaxRegs) {
		return api.ErrMany
	}
	if !kindsKnown(p) {
		return api.ErrKind
	}
	inBounds := func(k shape.Kind, v int) bool {
		switch k {
		case shape.Register:
			return within(v, 0, p.Regs-1)
		case shape.Place:
			return within(v, 1, len(p.Nodes)-1) // node 0 is only ever begun at
		}
		return true
	}
	if !eachField(p, inBounds) {
		return api.ErrRange
	}
	if !eachField(p, func(k shape.Kind, v int) bool { return k != shape.None || v == 0 }) {
		return api.ErrForm
	}
	return api.OK
}

// Next answers the nodes where node n may go on.
func Next(p api.Prog, n int) ([]int, api.Errno) {
	if e := checkNode(p, n); e != api.OK {
		return nil, e
	}
	return slices.Sorted(links.Exits(p.Nodes[n])), api.OK
}

// Ahead answers the nodes which may go on at node n.
func Ahead(p api.Prog, n int) ([]int, api.Errno) {
	if e := checkNode(p, n); e != api.OK {
		return nil, e
	}
	return links.Ahead(p)[n], api.OK
}

// Terms answers what the nodes reckon, each term once.
func Terms(p api.Prog) ([]api.Term, api.Errno) {
	if e := Check(p); e != api.OK {
		return nil, e
	}
	var terms []api.Term
	for _, x := range p.Nodes {
		if t, ok := shape.Term(x); ok && !slices.Contains(terms, t) {
			terms = append(terms, t)
		}
	}
	return terms, api.OK
}

func within(v, low, high int) bool { return low <= v && v <= high }

func kindsKnown(p api.Prog) bool {
	for _, x := range p.Nodes {
		if _, ok := shape.Of(x.Op); !ok {
			return false
		}
	}
	return true
}

// eachField asks of every field of every node; one question goes through the whole program, since an error of one kind counts ahead of the next kind at whichever node.
func eachField(p api.Prog, right func(k shape.Kind, v int) bool) bool {
	for _, x := range p.Nodes {
		kinds, _ := shape.Of(x.Op)
		for i, v := range shape.Values(x) {
			if !right(kinds[i], v) {
				return false
			}
		}
	}
	return true
}

func checkNode(p api.Prog, n int) api.Errno {
	if e := Check(p); e != api.OK {
		return e
	}
	if !within(n, 0, len(p.Nodes)-1) {
		return api.ErrRange
	}
	return api.OK
}
