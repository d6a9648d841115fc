package check

import "ravel/api"

// decl tells what is wrong with a type, a decl, a part of one, or the program.
func (c checker) decl(number int) api.Errno {
	n := c.Nodes[number]
	switch n.Kind {
	case api.KNamed:
		return unless(c.IsIface(n.Text), api.ErrName)
	case api.KPtr:
		return unless(c.IsPointer(c.Texts[number]), api.ErrName)
	case api.KParam:
		return c.param(number)
	case api.KField, api.KMethodSig:
		return c.once(number, func(kid api.Node) bool { return true })
	case api.KStruct, api.KIface:
		return c.once(number, isNamedDecl)
	case api.KFunc:
		return c.function(number)
	case api.KMethod:
		return c.method(number)
	case api.KProgram:
		return unless(c.funcOf("main") >= 0, api.ErrMain)
	}
	return api.OK
}

// once tells whether a node of the same name stands ahead, beside it, among those that are as asked.
func (c checker) once(number int, asked func(kid api.Node) bool) api.Errno {
	name := c.Nodes[number].Text
	first := c.first(c.parents[number], func(kid api.Node) bool { return kid.Text == name && asked(kid) })
	return unless(first == number, api.ErrTwice)
}

// isNamedDecl tells whether a decl is known by its name alone: a method is not.
func isNamedDecl(n api.Node) bool {
	return n.Kind != api.KMethod
}

func isParam(n api.Node) bool {
	return n.Kind == api.KParam
}

func (c checker) param(number int) api.Errno {
	if code := c.once(number, isParam); code != api.OK {
		return code
	}
	sig := c.parents[number]
	method := c.Nodes[c.parents[sig]]
	// Of a method's own KParam the node around it is no KSig.
	own := c.Nodes[sig].Kind == api.KSig && method.Kind == api.KMethod &&
		c.Nodes[method.Kids[0]].Text == c.Nodes[number].Text
	return unless(!own, api.ErrTwice)
}

func (c checker) function(number int) api.Errno {
	n := c.Nodes[number]
	if code := c.once(number, isNamedDecl); code != api.OK {
		return code
	}
	bare := len(c.Nodes[sigOf(n)].Kids) == 0
	return unless(n.Text != "main" || bare, api.ErrMain)
}

func (c checker) method(number int) api.Errno {
	n := c.Nodes[number]
	typ := c.kidType(n.Kids[0], 0)
	once := c.Method(typ, n.Text) == sigOf(n) && c.Field(typ, n.Text) < 0
	return unless(once, api.ErrTwice)
}
