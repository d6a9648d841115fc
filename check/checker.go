package check

import (
	"slices"
	"strings"

	"ravel/api"
	"ravel/types"
)

// checker has what is known of a program while it is looked through. The types of expressions are laid into the table's Texts, once they are found.
type checker struct {
	types.Table
	around
	uses []int // of each KName what it is of; of each other node -1
}

// look looks through a text's program, or tells what is wrong with the text; then the checker is zero.
func look(text string) (checker, api.Fault) {
	table, fault := types.Read(text)
	if fault.Code != api.OK {
		return checker{}, fault
	}
	c := checker{
		Table:  table,
		around: lookAround(table.Nodes),
		uses:   slices.Repeat([]int{-1}, len(table.Nodes)),
	}
	for number, n := range c.Nodes {
		if code := c.node(number); code != api.OK {
			return checker{}, api.Fault{Code: code, At: place(n)}
		}
	}
	return c, api.Fault{}
}

// place answers where a node's faults are told.
func place(n api.Node) int {
	if n.Kind == api.KProgram {
		return 0
	}
	return n.At
}

// node tells what is wrong with a node, when all nodes ahead of it are right.
func (c checker) node(number int) api.Errno {
	switch kind := c.Nodes[number].Kind; {
	case kind <= api.KProgram:
		return c.decl(number)
	case kind < api.KNumber:
		return c.stmt(number)
	}
	typ, code := c.expr(number)
	c.Texts[number] = typ
	return code
}

// unless answers a code, unless something is so.
func unless(so bool, code api.Errno) api.Errno {
	if so {
		return api.OK
	}
	return code
}

// first answers the number of a node's first kid that is as asked, or -1.
func (c checker) first(number int, asked func(kid api.Node) bool) int {
	kids := c.Nodes[number].Kids
	at := slices.IndexFunc(kids, func(kid int) bool { return asked(c.Nodes[kid]) })
	if at < 0 {
		return -1
	}
	return kids[at]
}

// funcOf answers the number of the first KFunc that has the name, or -1.
func (c checker) funcOf(name string) int {
	program := len(c.Nodes) - 1
	return c.first(program, func(kid api.Node) bool { return kid.Kind == api.KFunc && kid.Text == name })
}

// kidType answers the type of one of a node's kids.
func (c checker) kidType(number, place int) string {
	return c.Texts[c.Nodes[number].Kids[place]]
}

// carried answers what a channel is of, and whether the type is a channel's; else the empty text.
func carried(typ string) (string, bool) {
	if of, is := strings.CutPrefix(typ, "chan "); is {
		return of, true
	}
	return "", false
}
