package code

import "ravel/api"

// stmt writes the orders of a statement. Ahead of it and behind it no value is on the stack.
func (m *maker) stmt(number int) {
	n := m.Nodes[number]
	switch n.Kind {
	case api.KBlock:
		for _, kid := range n.Kids {
			m.stmt(kid)
		}
	case api.KDefine:
		m.with(n.Kids, api.OpVar, m.frame.slot(number))
	case api.KAssign:
		m.assign(n)
	case api.KDo:
		m.with(n.Kids, api.OpDrop, 0)
	case api.KSend:
		m.with(n.Kids, api.OpSend, 0)
	case api.KClose:
		m.with(n.Kids, api.OpClose, 0)
	case api.KPanic:
		m.with(n.Kids, api.OpPanic, 0)
	case api.KPrint:
		m.with(n.Kids, api.OpPrint, 0)
	case api.KGo:
		call := n.Kids[0]
		m.called(call)
		m.put(api.OpGo, len(m.Nodes[call].Kids)-1)
	case api.KIf:
		m.choose(n)
	case api.KFor:
		m.round(n)
	case api.KBreak:
		m.breaks = append(m.breaks, m.put(api.OpJump, 0))
	case api.KReturn:
		m.giveBack(n)
	case api.KSelect:
		m.selects(n)
	}
}

// with writes expressions, and the order that takes their values.
func (m *maker) with(values []int, do, a int) {
	for _, value := range values {
		m.expr(value)
	}
	m.put(do, a)
}

func (m *maker) assign(n api.Node) {
	left, value := n.Kids[0], n.Kids[1]
	if m.Nodes[left].Kind == api.KName {
		m.with([]int{value}, api.OpStore, m.frame.slot(m.Uses[left]))
		return
	}
	ahead := m.Nodes[left].Kids[0]
	m.with([]int{ahead, value}, api.OpPut, m.field(m.Texts[ahead], m.Nodes[left].Text))
}

func (m *maker) choose(n api.Node) {
	m.expr(n.Kids[0])
	otherwise := m.put(api.OpUnless, 0)
	m.stmt(n.Kids[1])
	if len(n.Kids) < 3 {
		m.land(otherwise)
		return
	}
	end := m.put(api.OpJump, 0)
	m.land(otherwise)
	m.stmt(n.Kids[2])
	m.land(end)
}

func (m *maker) round(n api.Node) {
	outer := m.breaks
	m.breaks = nil
	from := m.here()
	m.expr(n.Kids[0])
	end := m.put(api.OpUnless, 0)
	m.stmt(n.Kids[1])
	m.put(api.OpJump, from)
	m.land(end)
	m.land(m.breaks...)
	m.breaks = outer
}

func (m *maker) giveBack(n api.Node) {
	if len(n.Kids) == 0 {
		m.giveBackZero()
		return
	}
	m.with(n.Kids, api.OpRet, 0)
}

// giveBackZero ends a call that gives back the zero value, or nothing: something comes back from each.
func (m *maker) giveBackZero() {
	m.put(api.OpNum, 0)
	m.put(api.OpRet, 0)
}

func (m *maker) selects(n api.Node) {
	for _, number := range n.Kids {
		parts := m.Nodes[number].Kids
		for _, part := range parts[:len(parts)-1] {
			m.expr(part)
		}
	}
	first := m.put(api.OpSelect, len(n.Kids)) + 1
	for _, number := range n.Kids {
		m.caseOrder(m.Nodes[number].Kind)
	}
	var ends []int
	for i, number := range n.Kids {
		m.code.Ops[first+i].B = m.here()
		m.caseBody(number)
		ends = append(ends, m.put(api.OpJump, 0))
	}
	m.land(ends...)
}

func (m *maker) caseOrder(kind int) {
	switch kind {
	case api.KCaseSend:
		m.put(api.OpCase, 1)
	case api.KCaseRecv:
		m.put(api.OpCase, 0)
	case api.KCaseElse:
		m.put(api.OpElse, 0)
	}
}

// caseBody writes what is done when a case is picked: what it received is on the stack then.
func (m *maker) caseBody(number int) {
	n := m.Nodes[number]
	switch {
	case n.Kind == api.KCaseRecv && n.Text != "":
		m.put(api.OpVar, m.frame.slot(number))
	case n.Kind == api.KCaseRecv:
		m.put(api.OpDrop, 0)
	}
	m.stmt(n.Kids[len(n.Kids)-1])
}
