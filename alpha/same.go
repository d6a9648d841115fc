package alpha

import (
	"slices"

	"ravel/check"
)

// same holds two programs against each other, node by node: where these stand does not matter, nor what a variable is called, just which one it is.
func same(a, b check.Program) bool {
	if len(a.Nodes) != len(b.Nodes) {
		return false
	}
	first, second := variables(a), variables(b)
	alike := func(number int) bool {
		x, y := a.Nodes[number], b.Nodes[number]
		isVariable := first[number] >= 0
		return x.Kind == y.Kind && x.Num == y.Num && slices.Equal(x.Kids, y.Kids) &&
			first[number] == second[number] && (isVariable || x.Text == y.Text)
	}
	for number := range a.Nodes {
		if !alike(number) {
			return false
		}
	}
	return true
}
