package flow

import (
	"cmp"
	"slices"

	"ravel/api"
	"ravel/check"
)

// graph has the edges between the stations of a program.
type graph struct {
	nodes []api.Node
	edges map[[2]int]struct{} // so each one stands once, however often it is joined
}

func (g graph) join(from, to int) {
	g.edges[[2]int{from, to}] = struct{}{}
}

// rising answers the edges in their order.
func (g graph) rising() [][2]int {
	var out [][2]int
	for edge := range g.edges {
		out = append(out, edge)
	}
	slices.SortFunc(out, func(a, b [2]int) int {
		return cmp.Or(cmp.Compare(a[0], b[0]), cmp.Compare(a[1], b[1]))
	})
	return out
}

// grouped answers of each node the stations at the other ends of its edges: where they lead to (side 0), or come from (side 1).
func (g graph) grouped(side int) [][]int {
	out := make([][]int, len(g.nodes))
	for _, edge := range g.rising() {
		out[edge[side]] = append(out[edge[side]], edge[1-side])
	}
	return out
}

// order answers the reached stations, each one behind all that are over it: who is gone into is left behind all to which one comes from there, so the last one that is left comes first.
func (g graph) order() []int {
	next := g.grouped(0)
	seen := make([]bool, len(g.nodes))
	var left []int
	var visit func(station int)
	visit = func(station int) {
		if seen[station] {
			return
		}
		seen[station] = true
		for _, to := range next[station] {
			visit(to)
		}
		left = append(left, station)
	}
	for number, n := range g.nodes {
		if check.IsFunction(n.Kind) {
			visit(number)
		}
	}
	slices.Reverse(left)
	return left
}

// reached answers of each node 1, if it is a reached station, else 0.
func (g graph) reached() []int {
	out := make([]int, len(g.nodes))
	for _, station := range g.order() {
		out[station] = 1
	}
	return out
}
