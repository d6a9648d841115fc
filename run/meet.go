package run

import "ravel/api"

// ableArms answers the places of those arms of a thread's mark that can be done.
func (h *host) ableArms(number int) []int {
	var out []int
	for place, a := range h.at[number].arms {
		if h.ableArm(number, a) {
			out = append(out, place)
		}
	}
	return out
}

func (h *host) ableArm(number int, a arm) bool {
	c := a.channel
	switch {
	case c == nil:
		return false
	case c.closed:
		return true
	case c.room == 0:
		other, _ := h.met(number, a)
		return other >= 0
	case a.sends:
		return len(c.held) < c.room
	}
	return len(c.held) > 0
}

// met answers the other thread that stands where it does the other side of an arm, and which of its arms does; or -1.
func (h *host) met(number int, a arm) (int, arm) {
	for other, m := range h.at {
		if other == number {
			continue
		}
		for _, b := range m.arms {
			if b.channel == a.channel && b.sends != a.sends {
				return other, b
			}
		}
	}
	return -1, arm{}
}

// choose does a KSend, a KRecv, or a case of a KSelect.
func (h *host) choose(number int, m mark) {
	places := h.ableArms(number)
	if len(places) == 0 {
		h.goOn(number, answer{node: m.other})
		return
	}
	a := m.arms[places[h.pick(len(places))]]
	switch c := a.channel; {
	case c.closed && a.sends:
		h.end(api.Fell, a.node)
	case c.room == 0 && !c.closed:
		h.meet(number, a)
	case a.sends:
		c.held = append(c.held, a.held)
		h.tell(api.EvSend, number, a.node, told(a.held))
		h.goOn(number, answer{node: a.node})
	default:
		held := c.take()
		h.tell(api.EvRecv, number, a.node, told(held))
		h.goOn(number, answer{node: a.node, held: held})
	}
}

// meet hands a value from one thread to another one; the one that was picked goes on first.
func (h *host) meet(number int, a arm) {
	other, b := h.met(number, a)
	sender, sent, taker, taken := number, a, other, b
	if b.sends {
		sender, sent, taker, taken = other, b, number, a
	}
	h.tell(api.EvSend, sender, sent.node, told(sent.held))
	h.tell(api.EvRecv, taker, taken.node, told(sent.held))
	h.goOn(number, answer{node: a.node, held: b.held})
	h.goOn(other, answer{node: b.node, held: a.held})
}

// take answers what was sent first, or the zero value.
func (c *channel) take() value {
	if len(c.held) == 0 {
		return c.zero
	}
	first := c.held[0]
	c.held = c.held[1:]
	return first
}
