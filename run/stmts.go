package run

import (
	"ravel/api"
	"ravel/turns"
)

// ending is how a statement ends.
type ending int

const (
	goesOn ending = iota
	breaks
	returns
)

// stmt does a statement that makes no variable for those behind it.
func (t *thread) stmt(number int, s *scope) ending {
	t.begin(number)
	n := t.Nodes[number]
	switch n.Kind {
	case api.KBlock:
		return t.block(n, s)
	case api.KIf:
		return t.choose(n, s)
	case api.KFor:
		return t.round(n, s)
	case api.KSelect:
		return t.selects(number, s)
	case api.KReturn:
		t.giveBack(n, s)
		return returns
	case api.KBreak:
		return breaks
	case api.KAssign:
		t.assign(number, s)
	case api.KDo:
		t.expr(n.Kids[0], s)
	case api.KSend:
		t.stand(trading(number, t.sending(number, s)))
	case api.KGo:
		f, values := t.called(n.Kids[0], s)
		t.stand(turns.Mark{Does: turns.Begins, Node: number, Held: start{f, values}})
	case api.KClose:
		t.stand(turns.Mark{Does: turns.Shuts, Node: number, Held: t.expr(n.Kids[0], s)})
	case api.KPrint:
		t.stand(turns.Mark{Does: turns.Prints, Node: number, Held: t.expr(n.Kids[0], s)})
	case api.KPanic:
		t.expr(n.Kids[0], s)
		t.fall(number)
	}
	return goesOn
}

// block does statements one after the other, up to the first one that does not go on.
func (t *thread) block(n api.Node, s *scope) ending {
	for _, kid := range n.Kids {
		if t.Nodes[kid].Kind == api.KDefine {
			s = t.define(kid, s)
		} else if end := t.stmt(kid, s); end != goesOn {
			return end
		}
	}
	return goesOn
}

// define answers the variables that are there behind a KDefine.
func (t *thread) define(number int, s *scope) *scope {
	t.begin(number)
	return s.with(number, t.expr(t.Nodes[number].Kids[0], s))
}

func (t *thread) choose(n api.Node, s *scope) ending {
	switch {
	case t.truth(n.Kids[0], s):
		return t.stmt(n.Kids[1], s)
	case len(n.Kids) > 2:
		return t.stmt(n.Kids[2], s)
	}
	return goesOn
}

func (t *thread) round(n api.Node, s *scope) ending {
	for t.truth(n.Kids[0], s) {
		switch t.stmt(n.Kids[1], s) {
		case breaks:
			return goesOn
		case returns:
			return returns
		}
	}
	return goesOn
}

func (t *thread) giveBack(n api.Node, s *scope) {
	t.back = nil
	if len(n.Kids) > 0 {
		t.back = t.expr(n.Kids[0], s)
	}
}

// assign does not begin what stands left: of a field just what stands ahead of its `.` is a value.
func (t *thread) assign(number int, s *scope) {
	kids := t.Nodes[number].Kids
	left := kids[0]
	if t.Nodes[left].Kind == api.KName {
		held := t.expr(kids[1], s)
		t.touch(Writes, number, s.find(t.Uses[left])).held = held
		return
	}
	ahead := t.expr(t.Nodes[left].Kids[0], s)
	held := t.expr(kids[1], s)
	t.touch(Writes, number, t.field(left, ahead)).held = held
}

// selects stands at the mark of a KSelect, and does the case that is picked.
func (t *thread) selects(number int, s *scope) ending {
	m := trading(number)
	for _, kid := range t.Nodes[number].Kids {
		switch t.Nodes[kid].Kind {
		case api.KCaseSend:
			m.Arms = append(m.Arms, t.sending(kid, s))
		case api.KCaseRecv:
			m.Arms = append(m.Arms, t.receiving(kid, s))
		case api.KCaseElse:
			m.Other = kid
		}
	}
	a := t.stand(m)
	done := t.Nodes[a.Node]
	if done.Kind == api.KCaseRecv {
		s = s.with(a.Node, a.Held)
	}
	return t.stmt(done.Kids[len(done.Kids)-1], s)
}

// trading answers the mark of a KSend, a KRecv or a KSelect.
func trading(number int, arms ...turns.Arm) turns.Mark {
	return turns.Mark{Does: turns.Trades, Node: number, Arms: arms}
}

// sending does the channel and the value of a KSend or a KCaseSend.
func (t *thread) sending(number int, s *scope) turns.Arm {
	kids := t.Nodes[number].Kids
	to := t.channel(kids[0], s)
	return turns.Arm{Node: number, Channel: to, Sends: true, Held: t.expr(kids[1], s)}
}

// receiving does the channel of a KRecv or a KCaseRecv.
func (t *thread) receiving(number int, s *scope) turns.Arm {
	return turns.Arm{Node: number, Channel: t.channel(t.Nodes[number].Kids[0], s)}
}
