package alpha

import (
	"slices"
	"strconv"
	"strings"

	"ravel/api"
	"ravel/check"
)

// variables answers of each node the number of the variable that it is, or that it is a name of; of each other node -1.
func variables(p check.Program) []int {
	out := slices.Repeat([]int{-1}, len(p.Nodes))
	functions := p.Functions()
	count := 0
	for number, n := range p.Nodes {
		// The params of an interface's methods stand in no function: nobody can use them.
		if functions[number] >= 0 && makesVariable(n) {
			out[number] = count
			count++
		}
	}
	// A case's variable stands behind its names, so all variables are numbered first.
	for name, use := range p.Uses {
		if use >= 0 {
			out[name] = out[use]
		}
	}
	return out
}

// makesVariable tells whether a node of a function makes a variable.
func makesVariable(n api.Node) bool {
	switch n.Kind {
	case api.KDefine, api.KParam:
		return true
	case api.KCaseRecv:
		return n.Text != ""
	}
	return false
}

// renamed answers the nodes of a program whose variables are called by their numbers.
func renamed(p check.Program) []api.Node {
	nodes := slices.Clone(p.Nodes)
	ahead := unlike(nodes)
	for number, variable := range variables(p) {
		if variable >= 0 {
			nodes[number].Text = ahead + strconv.Itoa(variable)
		}
	}
	return nodes
}

// unlike answers so many "_" that no name begins with them. The other texts of nodes are operators, which begin with none.
func unlike(nodes []api.Node) string {
	most := 0
	for _, n := range nodes {
		most = max(most, len(n.Text)-len(strings.TrimLeft(n.Text, "_")))
	}
	return strings.Repeat("_", most+1)
}
