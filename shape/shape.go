// Package shape says which fields a node has by its operation: the table of chapter 1, in one place for all layers that go by it.
package shape

import "hoistway/api"

// Kind is what a field of a node holds.
type Kind int

const (
	None     Kind = iota // the node has no such field
	Register             // a register's number
	Number               // any number
	Place                // a node where it goes on
)

// The fields of a node beside its Op, in the order in which they are told.
const (
	D = iota
	A
	B
	Then
	Else
	Fields // how many there are
)

// Of answers the kinds of the fields, or false, if there is no such operation.
func Of(op int) ([Fields]Kind, bool) {
	switch op {
	case api.Skip:
		return [Fields]Kind{Then: Place}, true
	case api.Set:
		return [Fields]Kind{D: Register, A: Number, Then: Place}, true
	case api.Copy:
		return [Fields]Kind{D: Register, A: Register, Then: Place}, true
	case api.Add, api.Sub, api.Mul, api.And, api.Xor, api.Less:
		return [Fields]Kind{D: Register, A: Register, B: Register, Then: Place}, true
	case api.In:
		return [Fields]Kind{D: Register, Then: Place}, true
	case api.Out:
		return [Fields]Kind{A: Register, Then: Place}, true
	case api.If:
		return [Fields]Kind{A: Register, Then: Place, Else: Place}, true
	case api.End:
		return [Fields]Kind{A: Register}, true
	}
	return [Fields]Kind{}, false
}

// Values lays out a node's fields, so that they can be gone through beside their kinds.
func Values(n api.Node) [Fields]int {
	return [Fields]int{D: n.D, A: n.A, B: n.B, Then: n.Then, Else: n.Else}
}

// Node is the other way round of Values.
func Node(op int, v [Fields]int) api.Node {
	return api.Node{Op: op, D: v[D], A: v[A], B: v[B], Then: v[Then], Else: v[Else]}
}

// Term answers what a node reckons, or false, if it reckons nothing.
func Term(n api.Node) (api.Term, bool) {
	if n.Op < api.Add || n.Op > api.Less {
		return api.Term{}, false
	}
	return api.Term{Op: n.Op, A: n.A, B: n.B}, true
}

// Sets answers the register that a node sets, or false, if it sets none: a D of 0 alone does not tell.
func Sets(n api.Node) (int, bool) {
	if kinds, _ := Of(n.Op); kinds[D] != Register {
		return 0, false
	}
	return n.D, true
}

// Reckons answers whether a node reckons a term.
func Reckons(n api.Node, t api.Term) bool {
	u, ok := Term(n)
	return ok && u == t
}

// Keeps answers whether a term is behind a node what it was ahead of it.
func Keeps(n api.Node, t api.Term) bool {
	d, ok := Sets(n)
	return !ok || d != t.A && d != t.B
}
