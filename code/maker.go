package code

import (
	"slices"

	"ravel/api"
	"ravel/check"
)

// maker writes the code of a program.
type maker struct {
	check.Program
	functions []int          // of each node the function, method or literal around it, or -1
	fns       []int          // of each function of the code its node
	numbers   map[int]int    // of each function's node its number in the code
	frames    map[int]*frame // of each function's node its variables
	structs   []int          // of each kind its node
	kinds     map[string]int // of each type that is "*" and a struct's name its kind
	methods   []string       // of each number of a method its name: those that interfaces have
	code      api.Code

	// While a function is written:
	frame  *frame
	breaks []int // the jumps that leave the loop around
}

func newMaker(program check.Program) *maker {
	m := &maker{
		Program:   program,
		functions: program.Functions(),
		numbers:   map[int]int{},
		frames:    map[int]*frame{},
		kinds:     map[string]int{},
	}
	for number, n := range m.Nodes {
		m.learn(number, n)
	}
	for place, function := range m.fns {
		m.numbers[function] = place
	}
	m.layOut()
	return m
}

// learn takes in what has a number of its own in the code.
func (m *maker) learn(number int, n api.Node) {
	switch {
	case n.Kind == api.KFunc && n.Text == "main":
		m.fns = slices.Insert(m.fns, 0, number)
	case check.IsFunction(n.Kind):
		m.fns = append(m.fns, number)
	case n.Kind == api.KStruct:
		m.kinds["*"+n.Text] = len(m.structs)
		m.structs = append(m.structs, number)
	case n.Kind == api.KMethodSig && !slices.Contains(m.methods, n.Text):
		m.methods = append(m.methods, n.Text)
	}
}

func (m *maker) write() {
	for _, function := range m.fns {
		m.function(function)
	}
	for _, number := range m.structs {
		n := m.Nodes[number]
		kind := []int{len(n.Kids)}
		for _, name := range m.methods {
			kind = append(kind, m.method("*"+n.Text, name))
		}
		m.code.Kinds = append(m.code.Kinds, kind)
	}
}

func (m *maker) function(function int) {
	m.frame = m.frames[function]
	fn := api.Fn{Params: m.frame.params, From: m.here()}
	for _, variable := range m.frame.takes {
		fn.Takes = append(fn.Takes, m.frames[m.functions[function]].slot(variable))
	}
	kids := m.Nodes[function].Kids
	m.stmt(kids[len(kids)-1])
	m.giveBackZero()
	fn.Slots = len(m.frame.slots)
	m.code.Fns = append(m.code.Fns, fn)
}

// method answers the number of the function of a struct's method, or -1.
func (m *maker) method(typ, name string) int {
	sig := m.Method(typ, name)
	if sig < 0 {
		return -1
	}
	return m.numbers[m.functions[sig]]
}

// field answers which of a struct's fields has the name, or -1.
func (m *maker) field(typ, name string) int {
	kind, is := m.kinds[typ]
	if !is {
		return -1
	}
	fields := m.Nodes[m.structs[kind]].Kids
	return slices.IndexFunc(fields, func(field int) bool { return m.Nodes[field].Text == name })
}

// here answers the number of the next order.
func (m *maker) here() int {
	return len(m.code.Ops)
}

// put writes an order, and answers its number.
func (m *maker) put(do, a int) int {
	m.code.Ops = append(m.code.Ops, api.Op{Do: do, A: a})
	return m.here() - 1
}

// land lets orders go on at the next one.
func (m *maker) land(jumps ...int) {
	for _, jump := range jumps {
		m.code.Ops[jump].A = m.here()
	}
}
