package fold

import (
	"ravel/api"
	"ravel/consts"
)

// none is the number of what is taken away.
const none = -1

// folder puts the nodes of a program once more, from the outside in, but for what is folded.
type folder struct {
	consts.Program
	sure   []bool     // of each node whether it is sure
	folded []api.Node // each behind those below it
}

// put adds a node with these kids, and answers its number.
func (f *folder) put(n api.Node, kids ...int) int {
	n.Kids = kids
	f.folded = append(f.folded, n)
	return len(f.folded) - 1
}

// kids puts nodes one by one, and answers the new numbers of those that are not taken away.
func (f *folder) kids(numbers []int, put func(number int) int) []int {
	var out []int
	for _, number := range numbers {
		if kid := put(number); kid != none {
			out = append(out, kid)
		}
	}
	return out
}

// part puts a node, and what is below it. What stands left in an assignment is never sure, as it has no value there.
func (f *folder) part(number int) int {
	n := f.Nodes[number]
	switch {
	case n.Kind == api.KBlock:
		return f.put(n, f.kids(n.Kids, f.stmt)...)
	case f.sure[number] && f.canBeWritten(number):
		return f.value(number)
	}
	return f.put(n, f.kids(n.Kids, f.part)...)
}

// stmt puts a statement that is a station, unless it is taken away.
func (f *folder) stmt(number int) int {
	switch {
	case f.Goes[number] == 0 || f.isIdle(number):
		return none
	case f.Nodes[number].Kind == api.KIf:
		return f.ifStmt(number)
	}
	return f.part(number)
}

// isIdle tells whether a statement has a condition that is surely false, and nothing that is done then.
func (f *folder) isIdle(number int) bool {
	n := f.Nodes[number]
	hasNoElse := n.Kind == api.KFor || n.Kind == api.KIf && len(n.Kids) == 2
	return hasNoElse && f.isSurely(n.Kids[0], 0)
}

// isSurely tells whether an expression is sure to be a certain number.
func (f *folder) isSurely(number, certain int) bool {
	num, _ := f.Always(number)
	return f.sure[number] && num == certain
}

// ifStmt puts a KIf that stays: with just the part that is done, if it is sure which one that is.
func (f *folder) ifStmt(number int) int {
	n := f.Nodes[number]
	switch condition := n.Kids[0]; {
	case f.isSurely(condition, 1):
		return f.put(n, f.truth(1), f.part(n.Kids[1]))
	case f.isSurely(condition, 0):
		return f.put(n, f.truth(1), f.block(n.Kids[2]))
	}
	kids := f.kids(n.Kids[:2], f.part)
	return f.put(n, append(kids, f.kids(n.Kids[2:], f.branch)...)...)
}

// branch puts what stands behind an else: a block, or a KIf, unless that is taken away.
func (f *folder) branch(number int) int {
	if f.Nodes[number].Kind == api.KIf {
		return f.stmt(number)
	}
	return f.part(number)
}

// block puts what stands behind an else as a block.
func (f *folder) block(number int) int {
	if f.Nodes[number].Kind == api.KIf {
		return f.put(api.Node{Kind: api.KBlock}, f.kids([]int{number}, f.stmt)...)
	}
	return f.part(number)
}
