package vm

import (
	"slices"

	"ravel/api"
	"ravel/turns"
)

// mark answers the mark that an order is, for which what it takes is taken; and whether it is one.
func (t *thread) mark(at int) (turns.Mark, bool) {
	c, m := t.last(), turns.Mark{Node: at}
	switch t.Ops[at].Do {
	case api.OpSend:
		m.Does, m.Arms = turns.Trades, []turns.Arm{c.arm(at, true)}
	case api.OpRecv:
		m.Does, m.Arms = turns.Trades, []turns.Arm{c.arm(at, false)}
	case api.OpSelect:
		m.Does = turns.Trades
		m.Arms, m.Other = t.cases(at)
	case api.OpGo:
		m.Does, m.Held = turns.Begins, t.taskAt(at)
	case api.OpClose:
		m.Does, m.Held = turns.Shuts, c.pop()
	case api.OpPrint:
		m.Does, m.Held = turns.Prints, c.pop()
	default:
		return m, false
	}
	return m, true
}

// arm takes a channel, and what is to be sent on it. What is no channel is nil.
func (c *call) arm(at int, sends bool) turns.Arm {
	a := turns.Arm{Node: at, Sends: sends}
	if sends {
		a.Held = c.pop()
	}
	a.Channel, _ = c.pop().(*turns.Channel)
	return a
}

// cases takes what the cases of an OpSelect take, and answers these, and its OpElse, or 0.
func (t *thread) cases(at int) (arms []turns.Arm, other int) {
	c := t.last()
	for place := at + t.Ops[at].A; place > at; place-- {
		if op := t.Ops[place]; op.Do == api.OpElse {
			other = place
		} else {
			arms = append(arms, c.arm(place, op.A == 1))
		}
	}
	// What the last one takes was put last.
	slices.Reverse(arms)
	return arms, other
}

// behind lets a thread go on behind what was done at its mark.
func (t *thread) behind(a turns.Answer) {
	c, op := t.last(), t.Ops[a.Node]
	switch op.Do {
	case api.OpRecv:
		c.push(a.Held)
	case api.OpElse:
		c.next = op.B
	case api.OpCase:
		c.next = op.B
		if op.A == 0 {
			c.push(a.Held)
		}
	}
}
