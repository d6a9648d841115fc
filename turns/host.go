package turns

import (
	"slices"

	"ravel/api"
)

// host lets threads go on, one at a time.
type host struct {
	threads Threads
	script  []int // what is left of it
	picks   []Pick
	saw     func(Act) // perhaps nil: nobody wants to
	at      []Mark    // of each thread where it stands
	trace   api.Trace
}

// run goes on until somebody gives up with the run's end.
func (h *host) run(first any) {
	defer func() {
		reason := recover()
		end, is := reason.(End)
		if !is {
			panic(reason)
		}
		h.trace.Status, h.trace.At = end.Status, end.At
	}()
	h.add(first)
	h.goOn(0, Answer{Node: -1})
	for {
		h.next()
	}
}

// end ends the run.
func (h *host) end(status, at int) {
	panic(End{status, at})
}

// add adds one more thread, which waits until it is let.
func (h *host) add(first any) {
	h.threads.Begin(first)
	h.at = append(h.at, Mark{Does: gone})
}

// goOn lets a thread go on up to its next mark.
func (h *host) goOn(number int, a Answer) {
	h.leave(number)
	h.come(number, h.threads.GoOn(number, a))
}

// tell tells an event.
func (h *host) tell(a Act) {
	h.trace.Events = append(h.trace.Events, a.Event)
	if h.saw != nil {
		h.saw(a)
	}
}

// pick answers a place below how many there are.
func (h *host) pick(many int) int {
	if many < 2 {
		return 0
	}
	place := h.take() % many
	if place < 0 {
		place += many
	}
	h.picks = append(h.picks, Pick{place, many})
	return place
}

// take takes the script's next number: 0, when it is at its end.
func (h *host) take() int {
	if len(h.script) == 0 {
		return 0
	}
	number := h.script[0]
	h.script = h.script[1:]
	return number
}

// next lets one of those that are able do its mark.
func (h *host) next() {
	var able []int
	for number := range h.at {
		if h.able(number) {
			able = append(able, number)
		}
	}
	if len(able) == 0 {
		h.end(api.Stuck, -1)
	}
	h.do(able[h.pick(len(able))])
}

// able tells whether a thread can do its mark.
func (h *host) able(number int) bool {
	m := h.at[number]
	switch m.Does {
	case gone:
		return false
	case Trades:
		return m.Other > 0 || slices.ContainsFunc(m.Arms, func(a Arm) bool { return a.able(number) })
	}
	return true
}
