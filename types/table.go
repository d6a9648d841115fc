package types

import (
	"slices"
	"strings"

	"ravel/api"
	"ravel/syntax"
)

// entry is what a program says of a type.
type entry struct {
	decl    int      // KIface, if the type is an interface's name; KStruct, if it is "*" and a struct's name; else 0
	methods []string // a name, a blank, a type; in the order of their bytes
}

// Table has the types of a program.
type Table struct {
	Nodes []api.Node
	Texts []string         // of each node its type, or the empty text
	known map[string]entry // by the type's text
}

// Read makes the table of a text's program, or tells what is wrong with the text; then the table is zero.
func Read(text string) (Table, api.Fault) {
	nodes, fault := syntax.Parse(text)
	if fault.Code != api.OK {
		return Table{}, fault
	}
	t := Table{
		Nodes: nodes,
		Texts: make([]string, len(nodes)),
		known: map[string]entry{},
	}
	// A node's kids have lower numbers, so that their texts are there already.
	for i, n := range nodes {
		t.Texts[i] = t.tell(n)
		t.learn(n)
	}
	for _, e := range t.known {
		slices.Sort(e.methods)
	}
	return t, api.Fault{}
}

// learn takes in what a decl says of types. Names need not be there, nor be there just once: what is said of one name is taken together.
func (t Table) learn(n api.Node) {
	switch n.Kind {
	case api.KStruct:
		t.declare("*"+n.Text, n.Kind)
	case api.KIface:
		t.declare(n.Text, n.Kind)
		for _, kid := range n.Kids {
			t.addMethod(n.Text, t.Nodes[kid].Text, t.Nodes[kid].Kids[0])
		}
	case api.KMethod:
		t.addMethod(t.typeOf(n.Kids[0]), n.Text, n.Kids[1])
	}
}

func (t Table) declare(typ string, kind int) {
	e := t.known[typ]
	e.decl = kind
	t.known[typ] = e
}

func (t Table) addMethod(typ, name string, sig int) {
	e := t.known[typ]
	e.methods = append(e.methods, name+" "+t.Texts[sig])
	t.known[typ] = e
}

// IsIface tells whether a type is the name of an interface that is there.
func (t Table) IsIface(typ string) bool {
	return t.known[typ].decl == api.KIface
}

// IsPointer tells whether a type is "*" and the name of a struct that is there.
func (t Table) IsPointer(typ string) bool {
	return t.known[typ].decl == api.KStruct
}

// Fits tells whether a value of one type may stand where another one is asked.
func (t Table) Fits(from, to string) bool {
	switch {
	case from == to:
		return true
	case from == "nil":
		return t.takesNil(to)
	case t.IsIface(to):
		return (t.IsIface(from) || t.IsPointer(from)) && t.hasAll(from, to)
	}
	return false
}

func (t Table) takesNil(typ string) bool {
	begins := func(start string) bool { return strings.HasPrefix(typ, start) }
	return slices.ContainsFunc([]string{"*", "chan ", "func("}, begins) || t.IsIface(typ)
}

// hasAll tells whether one type has all methods of another one.
func (t Table) hasAll(from, to string) bool {
	has := t.known[from].methods
	lacks := func(method string) bool {
		_, found := slices.BinarySearch(has, method)
		return !found
	}
	return !slices.ContainsFunc(t.known[to].methods, lacks)
}
