package run

import (
	"slices"

	"ravel/api"
)

// crowds answers, of the channel of an arm, those that stand there as the arm does, and those that stand on the other side.
func (a arm) crowds() (same, others *crowd) {
	if a.sends {
		return &a.channel.senders, &a.channel.takers
	}
	return &a.channel.takers, &a.channel.senders
}

// come puts a thread at its mark, and among those that stand at the channels there: so who can be met is known without going through all arms of all threads.
func (h *host) come(number int, m mark) {
	h.at[number] = m
	for _, a := range m.arms {
		if a.channel != nil {
			same, _ := a.crowds()
			*same |= 1 << number
		}
	}
}

// leave takes a thread from its mark.
func (h *host) leave(number int) {
	for _, a := range h.at[number].arms {
		if a.channel != nil {
			same, _ := a.crowds()
			*same &^= 1 << number
		}
	}
	h.at[number] = mark{}
}

// ableArms answers those arms of a thread's mark that can be done.
func (h *host) ableArms(number int) []arm {
	var out []arm
	for _, a := range h.at[number].arms {
		if a.able(number) {
			out = append(out, a)
		}
	}
	return out
}

// able tells whether a thread can do an arm of its mark.
func (a arm) able(number int) bool {
	c := a.channel
	switch {
	case c == nil:
		return false
	case c.closed:
		return true
	case c.room == 0:
		_, others := a.crowds()
		return others.least(number) >= 0
	case a.sends:
		return len(c.held) < c.room
	}
	return len(c.held) > 0
}

// met answers the other thread that an arm meets, and which of its arms is the other side: the first one that fits.
func (h *host) met(number int, a arm) (int, arm) {
	_, others := a.crowds()
	other := others.least(number)
	arms := h.at[other].arms
	return other, arms[slices.IndexFunc(arms, func(b arm) bool { return b.channel == a.channel && b.sends != a.sends })]
}

// choose does a KSend, a KRecv, or a case of a KSelect.
func (h *host) choose(number int, m mark) {
	arms := h.ableArms(number)
	if len(arms) == 0 {
		h.goOn(number, answer{node: m.other})
		return
	}
	a := arms[h.pick(len(arms))]
	switch c := a.channel; {
	case c.closed && a.sends:
		h.end(api.Fell, a.node)
	case c.room == 0 && !c.closed:
		h.meet(number, a)
	case a.sends:
		c.held = append(c.held, a.held)
		h.journal.use(Sends, number, a)
		h.tell(api.EvSend, number, a.node, told(a.held))
		h.goOn(number, answer{node: a.node})
	default:
		h.journal.use(c.taking(), number, a)
		held := c.take()
		h.tell(api.EvRecv, number, a.node, told(held))
		h.goOn(number, answer{node: a.node, held: held})
	}
}

// meet hands a value from one thread to another one; the one that was picked goes on first.
func (h *host) meet(number int, a arm) {
	other, b := h.met(number, a)
	sender, sent, taker, taken := number, a, other, b
	if b.sends {
		sender, sent, taker, taken = other, b, number, a
	}
	h.journal.write(Deed{Doing: Meets, Thread: sender, Node: sent.node, On: taker})
	h.tell(api.EvSend, sender, sent.node, told(sent.held))
	h.tell(api.EvRecv, taker, taken.node, told(sent.held))
	h.goOn(number, answer{node: a.node, held: b.held})
	h.goOn(other, answer{node: b.node, held: a.held})
}

// taking answers what a receive that need not wait does.
func (c *channel) taking() Doing {
	if len(c.held) == 0 {
		return FindsShut
	}
	return Takes
}

// take answers what was sent first, or the zero value.
func (c *channel) take() value {
	if len(c.held) == 0 {
		return c.zero
	}
	first := c.held[0]
	c.held = c.held[1:]
	return first
}
