package run

import (
	"slices"

	"ravel/api"
	"ravel/check"
)

// program is what is run: it answers what its decls say.
type program struct {
	check.Program
}

// decl answers the number of the first decl that is as asked; in a program that may be, there is one.
func (p program) decl(asked func(n api.Node) bool) int {
	decls := p.Nodes[len(p.Nodes)-1].Kids
	return decls[slices.IndexFunc(decls, func(decl int) bool { return asked(p.Nodes[decl]) })]
}

// main answers the number of the function that thread 0 does.
func (p program) main() int {
	return p.decl(func(n api.Node) bool { return n.Kind == api.KFunc && n.Text == "main" })
}

// method answers the number of a struct's method.
func (p program) method(owner, name string) int {
	return p.decl(func(n api.Node) bool {
		return n.Kind == api.KMethod && n.Text == name && p.Texts[p.Nodes[n.Kids[0]].Kids[0]] == "*"+owner
	})
}

// fields answers the numbers of a struct's fields.
func (p program) fields(owner string) []int {
	return p.Nodes[p.decl(func(n api.Node) bool { return n.Kind == api.KStruct && n.Text == owner })].Kids
}

// place answers which of a struct's fields has the name, or -1.
func (p program) place(owner, name string) int {
	return slices.IndexFunc(p.fields(owner), func(field int) bool { return p.Nodes[field].Text == name })
}

// parts answers the numbers of the params, the sig and the block of a function, a method (its own param first) or a literal.
func (p program) parts(number int) (params []int, sig, block int) {
	n := p.Nodes[number]
	if n.Kind == api.KMethod {
		params = append(params, n.Kids[0])
	}
	sig, block = n.Kids[len(n.Kids)-2], n.Kids[len(n.Kids)-1]
	return append(params, p.Nodes[sig].Kids[:p.Nodes[sig].Num]...), sig, block
}

// zero answers the zero value of a type.
func (p program) zero(typ int) value {
	switch p.Nodes[typ].Kind {
	case api.KInt:
		return int64(0)
	case api.KBool:
		return false
	}
	return nil
}

// zeroBack answers what comes back from a function of this sig that ends without a return.
func (p program) zeroBack(sig int) value {
	n := p.Nodes[sig]
	if len(n.Kids) == n.Num {
		return nil
	}
	return p.zero(n.Kids[n.Num])
}
