package vm

import (
	"ravel/api"
	"ravel/reckon"
	"ravel/turns"
)

// order does an order that is no mark.
func (t *thread) order(at int) {
	c, op := t.last(), t.Ops[at]
	switch op.Do {
	case api.OpNum:
		c.push(int64(op.A))
	case api.OpLoad:
		c.push(c.slots[op.A].held)
	case api.OpStore:
		c.slots[op.A].held = c.pop()
	case api.OpVar:
		c.slots[op.A] = &variable{c.pop()}
	case api.OpMake, api.OpNew, api.OpChan, api.OpBind:
		c.push(t.made(c, op))
	case api.OpGet, api.OpPut, api.OpFind, api.OpIs:
		t.ofThing(c, at)
	case api.OpNot:
		c.push(1 - number(c.pop()))
	case api.OpNeg:
		c.push(-number(c.pop()))
	case api.OpTwo:
		right := c.pop()
		c.push(t.two(at, c.pop(), right))
	case api.OpJump, api.OpUnless, api.OpShort:
		c.jump(op)
	case api.OpCall:
		t.callAt(at)
	case api.OpRet:
		t.leave()
	case api.OpDrop:
		c.pop()
	case api.OpPanic:
		fall(at)
	}
}

// made answers what an order makes: something that is there once.
func (t *thread) made(c *call, op api.Op) value {
	switch op.Do {
	case api.OpNew:
		return &thing{kind: op.A}
	case api.OpChan:
		return &turns.Channel{Room: op.A, Zero: int64(0)}
	case api.OpBind:
		return &function{number: op.A, ahead: []value{c.pop()}}
	}
	takes := t.Fns[op.A].Takes
	took := make([]*variable, len(takes))
	for i, slot := range takes {
		took[i] = c.slots[slot]
	}
	return &function{number: op.A, took: took}
}

// ofThing does an order that asks for a thing of a kind.
func (t *thread) ofThing(c *call, at int) {
	op := t.Ops[at]
	var put value
	if op.Do == api.OpPut {
		put = c.pop()
	}
	x, is := c.pop().(*thing)
	if !is || !t.has(x.kind, op) {
		fall(at)
	}
	switch op.Do {
	case api.OpGet:
		c.push(x.get(op.A))
	case api.OpPut:
		x.put(op.A, t.Kinds[x.kind][0], put)
	case api.OpFind:
		c.push(&function{number: t.Kinds[x.kind][1+op.A], ahead: []value{x}})
	case api.OpIs:
		c.push(x)
	}
}

// has tells whether a kind has the field or the method that an order asks for, or is the one.
func (t *thread) has(kind int, op api.Op) bool {
	fields, methods := t.Kinds[kind][0], t.Kinds[kind][1:]
	switch op.Do {
	case api.OpIs:
		return op.A == kind
	case api.OpFind:
		return op.A < len(methods) && methods[op.A] >= 0
	}
	return op.A < fields
}

// two answers what an operator makes of two values. Things are held against each other, but no number is made of them.
func (t *thread) two(at int, left, right value) value {
	sign := t.signs[t.Ops[at].A]
	switch sign {
	case "==":
		return reckon.Truth(left == right)
	case "!=":
		return reckon.Truth(left != right)
	}
	made, is := reckon.Two(sign, number(left), number(right))
	if !is {
		fall(at)
	}
	return made
}

// jump goes on elsewhere, if the last value does not say otherwise.
func (c *call) jump(op api.Op) {
	switch op.Do {
	case api.OpUnless:
		if number(c.pop()) != 0 {
			return
		}
	case api.OpShort:
		if number(c.top()) != int64(op.B) {
			c.pop()
			return
		}
	}
	c.next = op.A
}
