package run

import (
	"slices"
	"sync"
	"sync/atomic"

	"ravel/api"
)

// arm is something that a thread at a mark would send or receive.
type arm struct {
	node    int
	channel *channel
	sends   bool
	held    value // what is sent
}

// mark is where a thread stands, and waits to be answered.
type mark struct {
	node   int       // where it stands: -1: at the thread's end
	status int       // Fell, Out: the run ends there; else Done
	arms   []arm     // of a KSend, a KRecv, a KSelect
	other  int       // of a KSelect: its KCaseElse; 0: there is none (node 0 has no nodes below it)
	called *function // of a KGo
	values []value   // of a KGo: those of its call; of a KClose, a KPrint: the one
}

// answer lets a thread go on behind its mark.
type answer struct {
	node int   // of a KSelect: the case that is done
	held value // what is received
}

// runOver is what threads give up with when the run ends ahead of them.
type runOver struct{}

// thread is a thread of a program: a goroutine, which goes on while it is let.
type thread struct {
	program
	self    int           // its number
	steps   *atomic.Int64 // of all threads
	journal *journal      // likewise; perhaps nil
	marks   chan mark
	answers chan answer
	calls   int   // that are within one another
	back    value // what the last KReturn gave back
}

// live does a function as the thread's first one, and tells when nothing is touched any more.
func (t *thread) live(f *function, values []value, all *sync.WaitGroup) {
	defer all.Done()
	defer func() {
		if reason := recover(); reason != nil && reason != (runOver{}) {
			panic(reason)
		}
	}()
	t.await()
	t.body(f, values)
	t.stand(mark{node: -1})
}

// await waits until the thread is let.
func (t *thread) await() answer {
	a, on := <-t.answers
	if !on {
		panic(runOver{})
	}
	return a
}

// stand tells at which mark the thread stands, and waits until it is let.
func (t *thread) stand(m mark) answer {
	t.marks <- m
	return t.await()
}

// fall ends the run at a node: nobody goes on behind it.
func (t *thread) fall(number int) {
	t.stand(mark{node: number, status: api.Fell})
}

// begin counts a step.
func (t *thread) begin(number int) {
	if t.steps.Add(1) > api.MaxSteps {
		t.stand(mark{node: number, status: api.Out})
	}
}

// touch tells that the thread reads or writes a variable or a field at a node, and answers it.
func (t *thread) touch(does Doing, number int, v *variable) *variable {
	return t.journal.touch(does, t.self, number, v)
}

// call does a function within those that the thread does already.
func (t *thread) call(number int, f *function, values []value) value {
	if t.calls == api.MaxCalls {
		t.fall(number)
	}
	t.calls++
	back := t.body(f, values)
	t.calls--
	return back
}

// body does a function with its values, and answers what comes back.
func (t *thread) body(f *function, values []value) value {
	params, sig, block := t.parts(f.node)
	values = slices.Concat(f.ahead, values)
	s := f.scope
	for i, param := range params {
		s = s.with(param, values[i])
	}
	if t.stmt(block, s) == returns {
		return t.back
	}
	return t.zeroBack(sig)
}
