package flow

import (
	"ravel/api"
	"ravel/check"
)

// builder joins the stations of a function.
type builder struct {
	graph
	end int // the function's KSig
}

// exits are the stations to which one goes on from a statement.
type exits struct {
	behind int // when it is done
	broken int // by a KBreak; outside loops there is none
}

// read answers the graph of a text's program, or what is wrong with the text; then the graph is zero.
func read(text string) (graph, api.Fault) {
	program, fault := check.Read(text)
	if fault.Code != api.OK {
		return graph{}, fault
	}
	return build(program.Nodes), api.Fault{}
}

func build(nodes []api.Node) graph {
	g := graph{nodes: nodes, edges: map[[2]int]struct{}{}}
	for number, n := range g.nodes {
		if check.IsFunction(n.Kind) {
			sig, block := n.Kids[len(n.Kids)-2], n.Kids[len(n.Kids)-1]
			builder{graph: g, end: sig}.part(number, block, exits{behind: sig, broken: -1})
		}
	}
	return g
}

// part joins a station with the first one of a part of it, and those of the part.
func (b builder) part(station, part int, to exits) {
	stmts := b.stmts(part)
	b.join(station, first(stmts, to.behind))
	for place, stmt := range stmts {
		b.stmt(stmt, exits{behind: first(stmts[place+1:], to.behind), broken: to.broken})
	}
}

// stmts answers the statements of a part: it is a block, or the KIf behind an else.
func (b builder) stmts(part int) []int {
	if b.nodes[part].Kind == api.KBlock {
		return b.nodes[part].Kids
	}
	return []int{part}
}

func first(stmts []int, behind int) int {
	if len(stmts) == 0 {
		return behind
	}
	return stmts[0]
}

// stmt joins a statement, and those within it, with where one goes on from there.
func (b builder) stmt(number int, to exits) {
	n := b.nodes[number]
	switch n.Kind {
	case api.KIf:
		b.ifStmt(number, to)
	case api.KFor:
		b.join(number, to.behind)
		b.part(number, n.Kids[1], exits{behind: number, broken: to.behind})
	case api.KSelect:
		for _, c := range n.Kids {
			kids := b.nodes[c].Kids
			b.part(number, kids[len(kids)-1], to)
		}
	case api.KReturn:
		b.join(number, b.end)
	case api.KBreak:
		b.join(number, to.broken)
	case api.KPanic:
		// From here one goes nowhere.
	default:
		b.join(number, to.behind)
	}
}

func (b builder) ifStmt(number int, to exits) {
	kids := b.nodes[number].Kids
	for _, part := range kids[1:] {
		b.part(number, part, to)
	}
	if len(kids) == 2 {
		b.join(number, to.behind)
	}
}
