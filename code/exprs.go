package code

import (
	"slices"

	"ravel/api"
	"ravel/reckon"
)

// expr writes the orders that put the value of an expression. Truth values are 1 and 0, nil is 0.
func (m *maker) expr(number int) {
	n := m.Nodes[number]
	switch n.Kind {
	case api.KNumber, api.KTruth, api.KNil:
		m.put(api.OpNum, n.Num)
	case api.KName:
		m.name(number)
	case api.KDot:
		m.dot(n)
	case api.KCall:
		m.called(number)
		m.put(api.OpCall, len(n.Kids)-1)
	case api.KAssert:
		m.expr(n.Kids[0])
		m.put(api.OpIs, m.kinds[m.Texts[number]])
	case api.KLit:
		m.put(api.OpMake, m.numbers[number])
	case api.KNew:
		m.put(api.OpNew, m.kinds[m.Texts[number]])
	case api.KMake:
		m.put(api.OpChan, n.Num)
	case api.KNot:
		m.expr(n.Kids[0])
		m.put(api.OpNot, 0)
	case api.KNeg:
		m.expr(n.Kids[0])
		m.put(api.OpNeg, 0)
	case api.KRecv:
		m.expr(n.Kids[0])
		m.put(api.OpRecv, 0)
	case api.KBinary:
		m.binary(n)
	}
}

func (m *maker) name(number int) {
	use := m.Uses[number]
	if m.isVariable(number) {
		m.put(api.OpLoad, m.frame.slot(use))
		return
	}
	m.put(api.OpMake, m.numbers[use])
}

func (m *maker) dot(n api.Node) {
	ahead := n.Kids[0]
	typ := m.Texts[ahead]
	m.expr(ahead)
	if m.IsIface(typ) {
		m.put(api.OpFind, slices.Index(m.methods, n.Text))
	} else if field := m.field(typ, n.Text); field >= 0 {
		m.put(api.OpGet, field)
	} else {
		m.put(api.OpBind, m.method(typ, n.Text))
	}
}

// called writes what a KCall calls, and its values.
func (m *maker) called(number int) {
	kids := m.Nodes[number].Kids
	m.expr(kids[0])
	if len(kids) > 1 && m.canBeNil(kids[0]) {
		m.fallOfNil()
	}
	for _, value := range kids[1:] {
		m.expr(value)
	}
}

// canBeNil tells whether what is called can be nil: functions' names, literals and methods can not.
func (m *maker) canBeNil(number int) bool {
	n := m.Nodes[number]
	switch n.Kind {
	case api.KName:
		return m.isVariable(number)
	case api.KDot:
		return m.field(m.Texts[n.Kids[0]], n.Text) >= 0
	}
	return n.Kind != api.KLit
}

// fallOfNil lets the run fall, if the last value is nil. A program falls ahead of a call's values, while OpCall looks behind them.
func (m *maker) fallOfNil() {
	slot := m.frame.slot(spare)
	m.put(api.OpStore, slot)
	m.put(api.OpLoad, slot)
	m.put(api.OpLoad, slot)
	m.put(api.OpNum, 0)
	m.two("==")
	on := m.put(api.OpUnless, 0)
	m.put(api.OpPanic, 0)
	m.land(on)
}

func (m *maker) binary(n api.Node) {
	m.expr(n.Kids[0])
	switch n.Text {
	case "&&":
		m.short(0, n.Kids[1])
	case "||":
		m.short(1, n.Kids[1])
	default:
		m.expr(n.Kids[1])
		m.two(n.Text)
	}
}

// short writes what stands right, which is not done if the left side decides.
func (m *maker) short(decides, right int) {
	end := m.put(api.OpShort, 0)
	m.code.Ops[end].B = decides
	m.expr(right)
	m.land(end)
}

func (m *maker) two(sign string) {
	m.put(api.OpTwo, slices.Index(reckon.Signs(), sign))
}
