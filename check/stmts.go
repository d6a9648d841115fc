package check

import "ravel/api"

// stmt tells what is wrong with a statement or a case.
func (c checker) stmt(number int) api.Errno {
	n := c.Nodes[number]
	switch n.Kind {
	case api.KDefine:
		return c.define(number)
	case api.KAssign:
		fits := c.Fits(c.kidType(number, 1), c.kidType(number, 0))
		return unless(c.canBeSet(n.Kids[0]) && fits, api.ErrType)
	case api.KSend, api.KCaseSend:
		of, is := carried(c.kidType(number, 0))
		return unless(is && c.Fits(c.kidType(number, 1), of), api.ErrType)
	case api.KCaseRecv, api.KClose:
		_, is := carried(c.kidType(number, 0))
		return unless(is, api.ErrType)
	case api.KDo:
		kind := c.Nodes[n.Kids[0]].Kind
		return unless(kind == api.KCall || kind == api.KRecv, api.ErrType)
	case api.KGo:
		return unless(c.Nodes[n.Kids[0]].Kind == api.KCall, api.ErrType)
	case api.KPanic:
		return unless(c.kidType(number, 0) == "int", api.ErrType)
	case api.KPrint:
		typ := c.kidType(number, 0)
		return unless(typ == "int" || typ == "bool", api.ErrType)
	case api.KIf, api.KFor:
		return unless(c.kidType(number, 0) == "bool", api.ErrType)
	case api.KReturn:
		return c.giveBack(number)
	case api.KBreak:
		return unless(c.inFor(number), api.ErrType)
	case api.KSelect:
		return unless(c.elses(n) < 2, api.ErrTwice)
	}
	return api.OK
}

func (c checker) define(number int) api.Errno {
	if typ := c.kidType(number, 0); typ == "" || typ == "nil" {
		return api.ErrType
	}
	return c.once(number, func(kid api.Node) bool { return kid.Kind == api.KDefine })
}

// canBeSet tells whether an expression is a variable or a field.
func (c checker) canBeSet(number int) bool {
	n := c.Nodes[number]
	switch n.Kind {
	case api.KName:
		return c.Nodes[c.uses[number]].Kind != api.KFunc
	case api.KDot:
		return c.Field(c.kidType(number, 0), n.Text) >= 0
	}
	return false
}

func (c checker) giveBack(number int) api.Errno {
	n := c.Nodes[number]
	sig := c.Nodes[c.sigAround(number)]
	if len(n.Kids) != len(sig.Kids)-sig.Num {
		return api.ErrCount
	}
	fits := len(n.Kids) == 0 || c.Fits(c.kidType(number, 0), c.Texts[sig.Kids[sig.Num]])
	return unless(fits, api.ErrType)
}

// elses counts a select's KCaseElse.
func (c checker) elses(n api.Node) int {
	count := 0
	for _, kid := range n.Kids {
		if c.Nodes[kid].Kind == api.KCaseElse {
			count++
		}
	}
	return count
}
