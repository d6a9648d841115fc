package turns

import "math/bits"

// crowd has threads: the bits of their numbers.
type crowd uint

// least answers the least number of those that are there, but for one; or -1.
func (c crowd) least(but int) int {
	if others := c &^ (1 << but); others != 0 {
		return bits.TrailingZeros(uint(others))
	}
	return -1
}

// crowds answers, of the channel of an arm, those that stand there as the arm does, and those that stand on the other side.
func (a Arm) crowds() (same, others *crowd) {
	if a.Sends {
		return &a.Channel.senders, &a.Channel.takers
	}
	return &a.Channel.takers, &a.Channel.senders
}

// able tells whether a thread can do an arm of its mark.
func (a Arm) able(number int) bool {
	c := a.Channel
	switch {
	case c == nil:
		return false
	case c.closed:
		return true
	case c.Room == 0:
		_, others := a.crowds()
		return others.least(number) >= 0
	case a.Sends:
		return len(c.held) < c.Room
	}
	return len(c.held) > 0
}

// come puts a thread at its mark, and among those that stand at the channels there: so who can be met is known without going through all arms of all threads.
func (h *host) come(number int, m Mark) {
	h.at[number] = m
	for _, a := range m.Arms {
		if a.Channel != nil {
			same, _ := a.crowds()
			*same |= 1 << number
		}
	}
}

// leave takes a thread from its mark.
func (h *host) leave(number int) {
	for _, a := range h.at[number].Arms {
		if a.Channel != nil {
			same, _ := a.crowds()
			*same &^= 1 << number
		}
	}
	h.at[number] = Mark{Does: gone}
}
