package effects

import (
	"slices"

	"ravel/api"
	"ravel/calls"
	"ravel/check"
)

// Table has what functions, methods and literals can do.
type Table struct {
	calls.Graph
	pairs [][2]int      // a KCall, but that of a KGo, and what it can call
	does  map[int]deeds // of each function, method and literal that can do something
}

// read answers the table of a text's program, or what is wrong with the text; then nothing is in the table.
func read(text string) (Table, api.Fault) {
	graph, fault := calls.Read(text)
	return gather(graph), fault
}

// Look answers the table of a program that is read already.
func Look(program check.Program) Table {
	return gather(calls.Look(program))
}

// gather makes the table of who can call whom.
func gather(graph calls.Graph) Table {
	t := Table{Graph: graph, does: map[int]deeds{}}
	started := t.started()
	t.pairs = slices.DeleteFunc(t.Calls(), func(pair [2]int) bool { return started[pair[0]] })
	for number, n := range t.Nodes {
		if done := deed(n.Kind); done != 0 {
			t.does[t.Around(number)] |= done
		}
	}
	t.settle()
	return t
}

// started tells of each node whether it is the KCall of a KGo: what that calls is done by another thread.
func (t Table) started() []bool {
	out := make([]bool, len(t.Nodes))
	for _, n := range t.Nodes {
		if n.Kind == api.KGo {
			out[n.Kids[0]] = true
		}
	}
	return out
}

// settle hands on what functions can do to those that can call them, until nothing comes any more.
func (t Table) settle() {
	callers := map[int][]int{} // of each function those in which calls stand that can call it
	var todo []int
	for _, pair := range t.pairs {
		function := pair[1]
		if len(callers[function]) == 0 {
			todo = append(todo, function)
		}
		callers[function] = append(callers[function], t.Around(pair[0]))
	}
	for len(todo) > 0 {
		function := todo[len(todo)-1]
		todo = todo[:len(todo)-1]
		for _, caller := range callers[function] {
			if more := t.does[function] &^ t.does[caller]; more != 0 {
				t.does[caller] |= more
				todo = append(todo, caller)
			}
		}
	}
}
