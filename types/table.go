package types

import (
	"slices"
	"strings"

	"ravel/api"
	"ravel/syntax"
)

// member is a field or a method: its name, and the number of its type, which of a method is its KSig.
type member struct {
	name string
	typ  int
}

// entry is what a program says of a type.
type entry struct {
	decl    int      // KIface, if the type is an interface's name; KStruct, if it is "*" and a struct's name; else 0
	fields  []member // in the order of the nodes
	methods []member // in the order of the nodes
	told    []string // of each method its name, a blank, its type; in the order of their bytes
}

// Table has the types of a program.
type Table struct {
	Nodes []api.Node
	Texts []string         // of each node its type, or the empty text
	known map[string]entry // by the type's text
}

// Read makes the table of a text's program, or tells what is wrong with the text; then the table is zero.
func Read(text string) (Table, api.Fault) {
	nodes, fault := syntax.Parse(text)
	if fault.Code != api.OK {
		return Table{}, fault
	}
	t := Table{
		Nodes: nodes,
		Texts: make([]string, len(nodes)),
		known: map[string]entry{},
	}
	// A node's kids have lower numbers, so that their texts are there already.
	for i, n := range nodes {
		t.Texts[i] = t.tell(n)
		t.learn(n)
	}
	for _, e := range t.known {
		slices.Sort(e.told)
	}
	return t, api.Fault{}
}

// learn takes in what a decl says of types. Names need not be there, nor be there just once: what is said of one name is taken together.
func (t Table) learn(n api.Node) {
	switch n.Kind {
	case api.KStruct:
		t.add("*"+n.Text, entry{decl: n.Kind, fields: t.members(n.Kids)})
	case api.KIface:
		t.add(n.Text, entry{decl: n.Kind, methods: t.members(n.Kids)})
	case api.KMethod:
		t.add(t.typeOf(n.Kids[0]), entry{methods: []member{{n.Text, n.Kids[1]}}})
	}
}

// members answers the KFields or KMethodSigs that have these numbers.
func (t Table) members(numbers []int) []member {
	var out []member
	for _, number := range numbers {
		n := t.Nodes[number]
		out = append(out, member{n.Text, n.Kids[0]})
	}
	return out
}

// add lays what one decl says of a type beside what others say of it.
func (t Table) add(typ string, said entry) {
	e := t.known[typ]
	e.decl = max(e.decl, said.decl)
	e.fields = append(e.fields, said.fields...)
	e.methods = append(e.methods, said.methods...)
	for _, m := range said.methods {
		e.told = append(e.told, m.name+" "+t.Texts[m.typ])
	}
	t.known[typ] = e
}

// IsIface tells whether a type is the name of an interface that is there.
func (t Table) IsIface(typ string) bool {
	return t.known[typ].decl == api.KIface
}

// IsPointer tells whether a type is "*" and the name of a struct that is there.
func (t Table) IsPointer(typ string) bool {
	return t.known[typ].decl == api.KStruct
}

// Field answers the number of the type of the first field that has the name, of a type that is "*" and a struct's name; or -1.
func (t Table) Field(typ, name string) int {
	return find(t.known[typ].fields, name)
}

// Method answers the number of the KSig of the first method of a type that has the name, or -1.
func (t Table) Method(typ, name string) int {
	return find(t.known[typ].methods, name)
}

func find(members []member, name string) int {
	at := slices.IndexFunc(members, func(m member) bool { return m.name == name })
	if at < 0 {
		return -1
	}
	return members[at].typ
}

// Fits tells whether a value of one type may stand where another one is asked.
func (t Table) Fits(from, to string) bool {
	switch {
	case from == to:
		return true
	case from == "nil":
		return t.takesNil(to)
	case t.IsIface(to):
		return (t.IsIface(from) || t.IsPointer(from)) && t.hasAll(from, to)
	}
	return false
}

func (t Table) takesNil(typ string) bool {
	begins := func(start string) bool { return strings.HasPrefix(typ, start) }
	return slices.ContainsFunc([]string{"*", "chan ", "func("}, begins) || t.IsIface(typ)
}

// hasAll tells whether one type has all methods of another one.
func (t Table) hasAll(from, to string) bool {
	has := t.known[from].told
	lacks := func(method string) bool {
		_, found := slices.BinarySearch(has, method)
		return !found
	}
	return !slices.ContainsFunc(t.known[to].told, lacks)
}
