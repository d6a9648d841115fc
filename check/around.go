package check

import (
	"iter"
	"slices"

	"ravel/api"
)

// around has of each node the one that it is a kid of; of the program -1.
type around struct {
	parents []int
}

func lookAround(nodes []api.Node) around {
	a := around{parents: slices.Repeat([]int{-1}, len(nodes))}
	for number, n := range nodes {
		for _, kid := range n.Kids {
			a.parents[kid] = number
		}
	}
	return a
}

// outward goes from a node up to the program: of each step it tells the node that is left, and the one around it.
func (a around) outward(number int) iter.Seq2[int, int] {
	return func(yield func(inner, outer int) bool) {
		for a.parents[number] >= 0 && yield(number, a.parents[number]) {
			number = a.parents[number]
		}
	}
}

// IsFunction tells whether a kind is one of functions, methods or literals: what has a block that is called.
func IsFunction(kind int) bool {
	return kind == api.KFunc || kind == api.KMethod || kind == api.KLit
}

// Functions answers of each node the function, method or literal around it, or -1.
func (p Program) Functions() []int {
	out := slices.Repeat([]int{-1}, len(p.Nodes))
	// Who is around a node has a higher number.
	for number, n := range slices.Backward(p.Nodes) {
		function := out[number]
		if IsFunction(n.Kind) {
			function = number
		}
		for _, kid := range n.Kids {
			out[kid] = function
		}
	}
	return out
}

// sigAround answers the number of the KSig of the function or literal around a statement.
func (c checker) sigAround(number int) int {
	for _, outer := range c.outward(number) {
		if n := c.Nodes[outer]; IsFunction(n.Kind) {
			return sigOf(n)
		}
	}
	return -1
}

// sigOf answers the number of a function's, method's or literal's KSig, which stands ahead of its block.
func sigOf(n api.Node) int {
	return n.Kids[len(n.Kids)-2]
}

// inFor tells whether a loop of the same function or literal is around a statement.
func (c checker) inFor(number int) bool {
	for _, outer := range c.outward(number) {
		switch kind := c.Nodes[outer].Kind; {
		case kind == api.KFor:
			return true
		case IsFunction(kind):
			return false
		}
	}
	return false
}

// inSight goes backwards through what a name at a node can be of, from the nearest one on; functions are left out.
func (c checker) inSight(number int) iter.Seq[int] {
	return func(yield func(int) bool) {
		for inner, outer := range c.outward(number) {
			for _, giver := range slices.Backward(c.givers(inner, outer)) {
				if !yield(giver) {
					return
				}
			}
		}
	}
}

// givers answers what has a name that can be used in a kid of a node, but not outside the node.
func (c checker) givers(kid, number int) []int {
	n := c.Nodes[number]
	switch {
	case n.Kind == api.KBlock:
		return c.definesAhead(kid, n)
	case n.Kind == api.KCaseRecv && c.Nodes[kid].Kind == api.KBlock:
		return []int{number}
	case IsFunction(n.Kind):
		return c.params(n)
	}
	return nil
}

// definesAhead answers a block's KDefines ahead of a statement; in its own value a KDefine is not known yet.
func (c checker) definesAhead(stmt int, block api.Node) []int {
	var out []int
	for _, kid := range block.Kids {
		if kid < stmt && c.Nodes[kid].Kind == api.KDefine {
			out = append(out, kid)
		}
	}
	return out
}

// params answers the KParams of a function, method or literal, a method's own one first.
func (c checker) params(n api.Node) []int {
	var out []int
	if n.Kind == api.KMethod {
		out = append(out, n.Kids[0])
	}
	sig := c.Nodes[sigOf(n)]
	return append(out, sig.Kids[:sig.Num]...)
}

// use answers what a KName is of, or -1.
func (c checker) use(number int) int {
	name := c.Nodes[number].Text
	for giver := range c.inSight(number) {
		if c.Nodes[giver].Text == name {
			return giver
		}
	}
	return c.funcOf(name)
}

// given answers the type of what is used by its name.
func (c checker) given(giver int) string {
	// That of the value, the channel, the param's type, the KSig.
	typ := c.kidType(giver, 0)
	if c.Nodes[giver].Kind == api.KCaseRecv {
		typ, _ = carried(typ)
	}
	return typ
}
