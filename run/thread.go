package run

import (
	"slices"
	"sync"
	"sync/atomic"

	"ravel/api"
	"ravel/turns"
)

// mark is where a thread stands.
type mark struct {
	turns.Mark
	status int // Fell, Out: the run ends there; else Done
}

// start is what a thread does first: a call.
type start struct {
	called *function
	values []value
}

// runOver is what threads give up with when the run ends ahead of them.
type runOver struct{}

// thread is a thread of a program: a goroutine, which goes on while it is let.
type thread struct {
	program
	self    int           // its number
	steps   *atomic.Int64 // of all threads
	journal *journal      // likewise; perhaps nil
	marks   chan mark
	answers chan turns.Answer
	calls   int   // that are within one another
	back    value // what the last KReturn gave back
}

// live does a thread's first call, and tells when nothing is touched any more.
func (t *thread) live(first start, all *sync.WaitGroup) {
	defer all.Done()
	defer func() {
		if reason := recover(); reason != nil && reason != (runOver{}) {
			panic(reason)
		}
	}()
	t.await()
	t.body(first.called, first.values)
	t.stand(turns.Mark{Does: turns.Ends})
}

// await waits until the thread is let.
func (t *thread) await() turns.Answer {
	a, on := <-t.answers
	if !on {
		panic(runOver{})
	}
	return a
}

// stand tells at which mark the thread stands, and waits until it is let.
func (t *thread) stand(m turns.Mark) turns.Answer {
	t.marks <- mark{Mark: m}
	return t.await()
}

// end ends the run at a node: nobody goes on behind it.
func (t *thread) end(status, number int) {
	t.marks <- mark{Mark: turns.Mark{Node: number}, status: status}
	t.await()
}

func (t *thread) fall(number int) {
	t.end(api.Fell, number)
}

// begin counts a step.
func (t *thread) begin(number int) {
	if t.steps.Add(1) > api.MaxSteps {
		t.end(api.Out, number)
	}
}

// touch tells that the thread reads or writes a variable or a field at a node, and answers it.
func (t *thread) touch(does Doing, number int, v *variable) *variable {
	return t.journal.touch(does, t.self, number, v)
}

// call does a function within those that the thread does already.
func (t *thread) call(number int, f *function, values []value) value {
	if t.calls == api.MaxCalls {
		t.fall(number)
	}
	t.calls++
	back := t.body(f, values)
	t.calls--
	return back
}

// body does a function with its values, and answers what comes back.
func (t *thread) body(f *function, values []value) value {
	params, sig, block := t.parts(f.node)
	values = slices.Concat(f.ahead, values)
	s := f.scope
	for i, param := range params {
		s = s.with(param, values[i])
	}
	if t.stmt(block, s) == returns {
		return t.back
	}
	return t.zeroBack(sig)
}
