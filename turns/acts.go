package turns

import (
	"slices"

	"ravel/api"
)

// do does a thread's mark, at which it is able, and lets those go on that have to do with it.
func (h *host) do(number int) {
	m := h.at[number]
	switch m.Does {
	case Ends:
		h.endThread(number)
	case Prints:
		h.tell(Act{Event: event(api.EvPrint, number, m.Node, h.threads.Number(m.Held))})
		h.goOn(number, Answer{Node: m.Node})
	case Shuts:
		h.shut(number, m)
	case Begins:
		h.begin(number, m)
	case Trades:
		h.trade(number, m)
	}
}

func event(kind, thread, node, num int) api.Event {
	return api.Event{Kind: kind, Thread: thread, Node: node, Num: num}
}

func (h *host) endThread(number int) {
	h.tell(Act{Event: event(api.EvEnd, number, -1, 0)})
	h.leave(number)
	if number == 0 {
		h.end(api.Done, -1)
	}
}

func (h *host) shut(number int, m Mark) {
	c, is := m.Held.(*Channel)
	if !is || c.closed {
		h.end(api.Fell, m.Node)
	}
	c.closed = true
	h.tell(Act{Event: event(api.EvClose, number, m.Node, 0), Channel: c})
	h.goOn(number, Answer{Node: m.Node})
}

func (h *host) begin(number int, m Mark) {
	next := len(h.at)
	if next == api.MaxThreads {
		h.end(api.Out, m.Node)
	}
	h.tell(Act{Event: event(api.EvGo, number, m.Node, next)})
	h.add(m.Held)
	h.goOn(number, Answer{Node: m.Node})
	h.goOn(next, Answer{Node: -1})
}

// trade does one of those arms of a mark that can be done, or else what is done when none can be.
func (h *host) trade(number int, m Mark) {
	arms := slices.DeleteFunc(slices.Clone(m.Arms), func(a Arm) bool { return !a.able(number) })
	if len(arms) == 0 {
		h.goOn(number, Answer{Node: m.Other})
		return
	}
	a := arms[h.pick(len(arms))]
	switch c := a.Channel; {
	case c.closed && a.Sends:
		h.end(api.Fell, a.Node)
	case c.Room == 0 && !c.closed:
		h.meet(number, a)
	case a.Sends:
		c.held = append(c.held, a.Held)
		h.tell(h.act(api.EvSend, number, a, a.Held))
		h.goOn(number, Answer{Node: a.Node})
	default:
		h.receive(number, a)
	}
}

// receive takes what is in a channel, or finds nothing there.
func (h *host) receive(number int, a Arm) {
	nothing := len(a.Channel.held) == 0
	held := a.Channel.take()
	received := h.act(api.EvRecv, number, a, held)
	received.Nothing = nothing
	h.tell(received)
	h.goOn(number, Answer{a.Node, held})
}

// act answers what a thread does by an arm.
func (h *host) act(kind, number int, a Arm, held any) Act {
	return Act{Event: event(kind, number, a.Node, h.threads.Number(held)), Channel: a.Channel}
}

// met answers the other thread that an arm meets, and which of its arms is the other side: the first one that fits.
func (h *host) met(number int, a Arm) (int, Arm) {
	_, others := a.crowds()
	other := others.least(number)
	arms := h.at[other].Arms
	return other, arms[slices.IndexFunc(arms, func(b Arm) bool { return b.Channel == a.Channel && b.Sends != a.Sends })]
}

// meet hands a value from one thread to another one; the one that was picked goes on first.
func (h *host) meet(number int, a Arm) {
	other, b := h.met(number, a)
	sender, sent, taker, taken := number, a, other, b
	if b.Sends {
		sender, sent, taker, taken = other, b, number, a
	}
	h.tellMet(h.act(api.EvSend, sender, sent, sent.Held), taker)
	h.tellMet(h.act(api.EvRecv, taker, taken, sent.Held), sender)
	h.goOn(number, Answer{a.Node, b.Held})
	h.goOn(other, Answer{b.Node, a.Held})
}

func (h *host) tellMet(a Act, other int) {
	a.Met, a.Other = true, other
	h.tell(a)
}
