package vm

import (
	"ravel/api"
	"ravel/turns"
)

// machine runs code.
type machine struct {
	api.Code
	signs   []string // of operators, by their numbers
	steps   int      // of all threads
	threads []*thread
}

// thread is a thread of a run.
type thread struct {
	*machine
	calls []*call // each within the one ahead of it
}

// Begin begins a thread, which does a task.
func (m *machine) Begin(first any) {
	t := &thread{machine: m}
	t.enter(first.(task))
	m.threads = append(m.threads, t)
}

// GoOn lets a thread do orders up to its next mark.
func (m *machine) GoOn(number int, a turns.Answer) turns.Mark {
	t := m.threads[number]
	if a.Node >= 0 {
		t.behind(a)
	}
	for len(t.calls) > 0 {
		at := t.step()
		if mark, is := t.mark(at); is {
			return mark
		}
		t.order(at)
	}
	return turns.Mark{Does: turns.Ends}
}

// Number answers a value's number as events tell it.
func (m *machine) Number(held any) int {
	return int(number(held))
}

// step counts a step, and answers the order that it is of.
func (t *thread) step() int {
	c := t.last()
	at := c.next
	if t.steps == api.MaxOps {
		panic(turns.End{Status: api.Out, At: at})
	}
	t.steps++
	c.next++
	return at
}

// fall ends the run at an order.
func fall(at int) {
	panic(turns.End{Status: api.Fell, At: at})
}
