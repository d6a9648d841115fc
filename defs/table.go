package defs

import (
	"cmp"
	"slices"

	"ravel/api"
	"ravel/check"
	"ravel/flow"
)

// Table has what is known of the variables of a program.
type Table struct {
	flow.Program
	functions []int // of each node the function, method or literal around it, or -1
	stations  []int // of each node the nearest station around it, or -1
	shared    []int // of each node 1, if it is a shared variable, else 0
	Reads     []int // of each node the variable, not shared, that it reads, or -1
	Sets      []int // of each node the variable, not shared, that is set at it, or -1
	Steps     []Step
}

// Step is an edge from one station to another one, and the node that may set something behind the first one and ahead of the other one: what it sets, if anything, Sets tells.
type Step struct {
	From, To, Setter int
}

// Read answers the table of a text's program, or what is wrong with the text; then the table is zero. So who needs names, edges and variables reads a text once.
func Read(text string) (Table, api.Fault) {
	read, fault := check.Read(text)
	if fault.Code != api.OK {
		return Table{}, fault
	}
	return Look(read), api.Fault{}
}

// Look answers the table of a program that is read already.
func Look(read check.Program) Table {
	program := flow.Look(read)
	none := slices.Repeat([]int{-1}, len(program.Nodes))
	t := Table{
		Program:   program,
		functions: program.Functions(),
		stations:  slices.Clone(none),
		shared:    make([]int, len(none)),
		Reads:     slices.Clone(none),
		Sets:      slices.Clone(none),
	}
	t.lookAround()
	t.share()
	t.touch()
	t.join()
	return t
}

// lookAround finds in which stations nodes stand: who is around a node has a higher number.
func (t *Table) lookAround() {
	for number, n := range slices.Backward(t.Nodes) {
		station := t.stations[number]
		if check.IsFunction(n.Kind) || isStatement(n.Kind) {
			station = number
		}
		for _, kid := range n.Kids {
			t.stations[kid] = station
		}
	}
}

// isStatement tells whether a kind is one of statements that are stations.
func isStatement(kind int) bool {
	isCase := kind >= api.KCaseRecv && kind <= api.KCaseElse
	return kind > api.KBlock && kind <= api.KPrint && !isCase
}

// share finds the shared variables. A name in another function than its variable's stands in a literal within that one.
func (t *Table) share() {
	for name, use := range t.Uses {
		if t.isVariable(use) && t.functions[name] != t.functions[use] {
			t.shared[use] = 1
		}
	}
}

// isVariable tells whether what a name is of is a variable: else it is a function, or, if there is no name, nothing.
func (t *Table) isVariable(use int) bool {
	return use >= 0 && t.Nodes[use].Kind != api.KFunc
}

// own answers what a name is of, if it is a variable that is not shared, else -1.
func (t *Table) own(use int) int {
	if t.isVariable(use) && t.shared[use] == 0 {
		return use
	}
	return -1
}

// touch finds what nodes read and set.
func (t *Table) touch() {
	for number, n := range t.Nodes {
		t.Reads[number] = t.own(t.Uses[number])
		switch n.Kind {
		case api.KDefine, api.KCaseRecv, api.KParam:
			t.Sets[number] = t.own(number)
		case api.KAssign:
			// A name that stands left was taken for one that reads: it has a lower number.
			left := n.Kids[0]
			t.Sets[number], t.Reads[left] = t.Reads[left], -1
		}
	}
}

// join makes the steps, in the order of the text: so most of what one comes to stands behind. A round from a station to itself sets nothing, and is none.
func (t *Table) join() {
	for _, edge := range t.Edges {
		if from, to := edge[0], edge[1]; from != to {
			t.Steps = append(t.Steps, Step{from, to, t.setter(from, to)})
		}
	}
	slices.SortStableFunc(t.Steps, func(a, b Step) int {
		return cmp.Compare(t.Nodes[a.From].At, t.Nodes[b.From].At)
	})
}

// setter answers the node that sets something when one goes on from a station to another one: of a select it is the case whose block begins there. Of cases with empty blocks nothing is read, so they need not be told apart.
func (t *Table) setter(from, to int) int {
	if t.Nodes[from].Kind != api.KSelect {
		return from
	}
	for _, branch := range t.Nodes[from].Kids {
		kids := t.Nodes[branch].Kids
		stmts := t.Nodes[kids[len(kids)-1]].Kids
		if len(stmts) > 0 && stmts[0] == to {
			return branch
		}
	}
	return from
}

// settle hands on along steps what is known, until nothing is new. What is counted of a step just grows, so a step is gone along again only when there is more.
func settle(steps []Step, count func(s Step) int, hand func(s Step)) {
	handed := slices.Repeat([]int{-1}, len(steps))
	for more := true; more; {
		more = false
		for place, s := range steps {
			if now := count(s); now != handed[place] {
				handed[place], more = now, true
				hand(s)
			}
		}
	}
}
