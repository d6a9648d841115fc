package calls

import (
	"slices"

	"ravel/api"
	"ravel/check"
	"ravel/points"
)

// Graph has who can come to whom by calls.
type Graph struct {
	*points.Solver
	next [][]int // of each function those that calls in it can call, perhaps one several times
}

// Read answers the graph of a text's program, or what is wrong with the text; then nothing is in the graph. So who goes on from there looks for calls once.
func Read(text string) (Graph, api.Fault) {
	solver, fault := points.Read(text)
	return join(solver), fault
}

// Look answers the graph of a program that is read already.
func Look(read check.Program) Graph {
	return join(points.Look(read))
}

// join makes the graph of what can be where.
func join(solver *points.Solver) Graph {
	g := Graph{Solver: solver, next: make([][]int, len(solver.Nodes))}
	for _, pair := range g.Calls() {
		caller := g.Around(pair[0])
		g.next[caller] = append(g.next[caller], pair[1])
	}
	return g
}

// behind answers of each node 1, if one comes there from a function by one call or more, else 0.
func (g Graph) behind(function int) []int {
	out := make([]int, len(g.Nodes))
	for todo := []int{function}; len(todo) > 0; {
		from := todo[len(todo)-1]
		todo = todo[:len(todo)-1]
		for _, to := range g.next[from] {
			if out[to] == 0 {
				out[to] = 1
				todo = append(todo, to)
			}
		}
	}
	return out
}

// met answers of each node 1, if it is main, or behind it, else 0.
func (g Graph) met() []int {
	main := slices.IndexFunc(g.Nodes, func(n api.Node) bool { return n.Kind == api.KFunc && n.Text == "main" })
	if main < 0 {
		// Just a text with a fault has none.
		return nil
	}
	out := g.behind(main)
	out[main] = 1
	return out
}

// rings answers the lists of those that can come to each other, and so to themselves again.
func (g Graph) rings() [][]int {
	behind := make([][]int, len(g.Nodes))
	for number, n := range g.Nodes {
		if check.IsFunction(n.Kind) {
			behind[number] = g.behind(number)
		}
	}
	var out [][]int
	for first := range behind {
		// Each ring is found from all that are in it; it is told from the first one.
		if ring := ringOf(behind, first); len(ring) > 0 && ring[0] == first {
			out = append(out, ring)
		}
	}
	return out
}

// ringOf answers those to which a node can come, and that can come back, rising; of what comes nowhere none.
func ringOf(behind [][]int, number int) []int {
	var out []int
	for other, is := range behind[number] {
		if is == 1 && behind[other][number] == 1 {
			out = append(out, other)
		}
	}
	return out
}
