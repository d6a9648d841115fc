package run

import (
	"slices"
	"sync"
	"sync/atomic"

	"ravel/api"
)

// host lets the threads of a run go on, one at a time, as the script picks them.
type host struct {
	program
	script  []int // what is left of it
	picks   []Pick
	steps   atomic.Int64
	threads []*thread
	at      []mark // of each thread where it stands
	ended   []bool // of each thread whether it is at its end, and done
	all     sync.WaitGroup
	over    bool
	journal *journal // perhaps nil: nobody wants to know
	trace   api.Trace
}

// run goes on up to the run's end. Behind it no thread is left.
func (h *host) run() api.Trace {
	h.start(&function{node: h.main()}, nil)
	h.goOn(0, answer{})
	for !h.over {
		h.next()
	}
	for _, t := range h.threads {
		close(t.answers)
	}
	h.all.Wait()
	return h.trace
}

// start starts a thread, which waits until it is let.
func (h *host) start(f *function, values []value) {
	t := &thread{
		program: h.program,
		self:    len(h.threads),
		journal: h.journal,
		steps:   &h.steps,
		marks:   make(chan mark),
		answers: make(chan answer),
	}
	h.threads = append(h.threads, t)
	h.at = append(h.at, mark{})
	h.ended = append(h.ended, false)
	h.all.Add(1)
	go t.live(f, values, &h.all)
}

// goOn lets a thread go on up to its next mark, unless the run is over.
func (h *host) goOn(number int, a answer) {
	if h.over {
		return
	}
	h.leave(number)
	t := h.threads[number]
	t.answers <- a
	m := <-t.marks
	h.come(number, m)
	if m.status != api.Done {
		h.end(m.status, m.node)
	}
}

// end ends the run.
func (h *host) end(status, at int) {
	h.over = true
	h.trace.Status, h.trace.At = status, at
}

func (h *host) tell(kind, number, node, num int) {
	h.trace.Events = append(h.trace.Events, api.Event{Kind: kind, Thread: number, Node: node, Num: num})
}

// pick answers a place below how many there are.
func (h *host) pick(many int) int {
	if many < 2 {
		return 0
	}
	place := h.take() % many
	if place < 0 {
		place += many
	}
	h.picks = append(h.picks, Pick{place, many})
	return place
}

// take takes the script's next number: 0, when it is at its end.
func (h *host) take() int {
	if len(h.script) == 0 {
		return 0
	}
	number := h.script[0]
	h.script = h.script[1:]
	return number
}

// next lets one of those that are able do its mark.
func (h *host) next() {
	var able []int
	for number := range h.threads {
		if h.able(number) {
			able = append(able, number)
		}
	}
	if len(able) == 0 {
		h.end(api.Stuck, -1)
		return
	}
	h.do(able[h.pick(len(able))])
}

// able tells whether a thread can do its mark.
func (h *host) able(number int) bool {
	m := h.at[number]
	switch {
	case h.ended[number]:
		return false
	case m.node < 0:
		return true
	}
	switch h.Nodes[m.node].Kind {
	case api.KSend, api.KRecv, api.KSelect:
		return m.other > 0 || slices.ContainsFunc(m.arms, func(a arm) bool { return a.able(number) })
	}
	return true
}

// do does a thread's mark, at which it is able, and lets those go on that have to do with it.
func (h *host) do(number int) {
	m := h.at[number]
	if m.node < 0 {
		h.endThread(number)
		return
	}
	switch h.Nodes[m.node].Kind {
	case api.KPrint:
		h.tell(api.EvPrint, number, m.node, told(m.values[0]))
		h.goOn(number, answer{})
	case api.KClose:
		h.shut(number, m)
	case api.KGo:
		h.begin(number, m)
	default:
		h.choose(number, m)
	}
}

func (h *host) endThread(number int) {
	h.tell(api.EvEnd, number, -1, 0)
	h.ended[number] = true
	h.threads[number].answers <- answer{}
	if number == 0 {
		h.end(api.Done, -1)
	}
}

func (h *host) shut(number int, m mark) {
	c, is := m.values[0].(*channel)
	if !is || c.closed {
		h.end(api.Fell, m.node)
		return
	}
	c.closed = true
	h.journal.use(Shuts, number, arm{node: m.node, channel: c})
	h.tell(api.EvClose, number, m.node, 0)
	h.goOn(number, answer{})
}

func (h *host) begin(number int, m mark) {
	next := len(h.threads)
	if next == api.MaxThreads {
		h.end(api.Out, m.node)
		return
	}
	h.journal.write(Deed{Doing: Begins, Thread: number, Node: m.node, On: next})
	h.tell(api.EvGo, number, m.node, next)
	h.start(m.called, m.values)
	h.goOn(number, answer{})
	h.goOn(next, answer{})
}
