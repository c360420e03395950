// Package links lays out where nodes lead, for all layers that go by it. It takes a program as right: who hands one in has checked it.
package links

import (
	"iter"
	"slices"

	"hoistway/api"
	"hoistway/shape"
)

// Exits goes through the nodes where a node may go on, Then ahead of Else, each once.
func Exits(x api.Node) iter.Seq[int] {
	return func(yield func(m int) bool) {
		kinds, _ := shape.Of(x.Op)
		if kinds[shape.Then] == shape.Place && !yield(x.Then) {
			return
		}
		if kinds[shape.Else] == shape.Place && x.Else != x.Then {
			yield(x.Else)
		}
	}
}

// Next answers of each node the nodes where it may go on, rising: all at once, since prog.Next looks the whole program over for each.
func Next(p api.Prog) [][]int {
	next := make([][]int, len(p.Nodes))
	for n, x := range p.Nodes {
		next[n] = slices.Sorted(Exits(x))
	}
	return next
}

// Ahead answers of each node the nodes which may go on at it, rising.
func Ahead(p api.Prog) [][]int {
	ahead := make([][]int, len(p.Nodes))
	for n, x := range p.Nodes {
		for m := range Exits(x) {
			ahead[m] = append(ahead[m], n)
		}
	}
	return ahead
}
