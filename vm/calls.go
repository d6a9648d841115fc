package vm

import (
	"slices"

	"ravel/api"
)

// call is a call that goes on.
type call struct {
	next  int // the order that is done next
	slots []*variable
	stack []value
}

// task is a function, and the values that it is called with.
type task struct {
	called *function
	values []value
}

// last answers the call within which no other one is.
func (t *thread) last() *call {
	return t.calls[len(t.calls)-1]
}

// taskAt takes the task of an OpCall or an OpGo: the run falls there, if nobody can do it.
func (t *thread) taskAt(at int) task {
	c := t.last()
	values := c.popAll(t.Ops[at].A)
	f, is := c.pop().(*function)
	if !is || t.Fns[f.number].Params != len(f.ahead)+len(values) {
		fall(at)
	}
	return task{f, values}
}

// callAt does an OpCall. The thread's first call counts for none: it is within no other.
func (t *thread) callAt(at int) {
	do := t.taskAt(at)
	if len(t.calls) > api.MaxCalls {
		fall(at)
	}
	t.enter(do)
}

// enter begins a call.
func (t *thread) enter(do task) {
	f := do.called
	fn := t.Fns[f.number]
	c := &call{next: fn.From, slots: make([]*variable, 0, fn.Slots)}
	for _, held := range slices.Concat(f.ahead, do.values) {
		c.slots = append(c.slots, &variable{held})
	}
	c.slots = append(c.slots, f.took...)
	for len(c.slots) < fn.Slots {
		c.slots = append(c.slots, &variable{int64(0)})
	}
	t.calls = append(t.calls, c)
}

// leave ends a call, and hands what comes back to the one that it was within.
func (t *thread) leave() {
	back := t.last().pop()
	t.calls = t.calls[:len(t.calls)-1]
	if len(t.calls) > 0 {
		t.last().push(back)
	}
}

func (c *call) push(v value) {
	c.stack = append(c.stack, v)
}

func (c *call) pop() value {
	v := c.top()
	c.stack = c.stack[:len(c.stack)-1]
	return v
}

func (c *call) top() value {
	return c.stack[len(c.stack)-1]
}

// popAll takes the last values, and answers them in the order in which they were put.
func (c *call) popAll(many int) []value {
	rest := len(c.stack) - many
	// The next ones are put where these are now.
	values := slices.Clone(c.stack[rest:])
	c.stack = c.stack[:rest]
	return values
}
