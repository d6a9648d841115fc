package run

import (
	"sync"
	"sync/atomic"

	"ravel/api"
	"ravel/turns"
)

// host has the threads of a run, and lets them go on when it is their turn.
type host struct {
	program
	steps   atomic.Int64
	threads []*thread
	all     sync.WaitGroup
	journal *journal // perhaps nil: nobody wants to know
}

// run goes on up to the run's end. Behind it no thread is left.
func (h *host) run(script []int) (api.Trace, []Pick) {
	trace, picks := turns.Run(h, start{called: &function{node: h.main()}}, script, h.journal.see)
	for _, t := range h.threads {
		close(t.answers)
	}
	h.all.Wait()
	return trace, picks
}

// Begin starts a thread.
func (h *host) Begin(first any) {
	t := &thread{
		program: h.program,
		self:    len(h.threads),
		journal: h.journal,
		steps:   &h.steps,
		marks:   make(chan mark),
		answers: make(chan turns.Answer),
	}
	h.threads = append(h.threads, t)
	h.all.Add(1)
	go t.live(first.(start), &h.all)
}

// GoOn lets a thread go on, and waits for it.
func (h *host) GoOn(number int, a turns.Answer) turns.Mark {
	t := h.threads[number]
	t.answers <- a
	m := <-t.marks
	if m.status != api.Done {
		panic(turns.End{Status: m.status, At: m.Node})
	}
	return m.Mark
}

// Number answers a value's number as events tell it.
func (h *host) Number(held any) int {
	if number, is := held.(int64); is {
		return int(number)
	}
	if held == true {
		return 1
	}
	return 0
}
