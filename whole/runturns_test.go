package whole

import (
	"ravel/api"
)

// choice is something that a strand at its mark can do.
type choice struct {
	do func()
}

// choose takes a number of the script, if there is something to be picked.
func (m *machine) choose(many int) int {
	if many == 1 {
		return 0
	}
	m.sizes = append(m.sizes, many)
	if len(m.script) == 0 {
		return 0
	}
	number := m.script[0]
	m.script = m.script[1:]
	number %= many
	if number < 0 {
		return number + many
	}
	return number
}

// turn lets one strand do one thing.
func (m *machine) turn() {
	var all [][]choice
	for _, s := range m.strands {
		if list := m.choices(s); len(list) > 0 {
			all = append(all, list)
		}
	}
	if len(all) == 0 {
		m.finish(api.Stuck, -1)
		return
	}
	list := all[m.choose(len(all))]
	list[m.choose(len(list))].do()
}

func (m *machine) choices(s *strand) []choice {
	one := func(do func()) []choice { return []choice{{do}} }
	switch {
	case s.gone:
		return nil
	case s.halt == "end":
		return one(func() {
			m.say(api.EvEnd, s, -1, nil)
			s.gone = true
			if s == m.strands[0] {
				m.finish(api.Done, -1)
			}
		})
	case s.halt == "print":
		return one(func() {
			m.say(api.EvPrint, s, s.node, s.pop())
			m.advance(s)
		})
	case s.halt == "close":
		return one(func() { m.shut(s) })
	case s.halt == "go":
		return one(func() { m.begin(s) })
	}
	var out []choice
	for _, e := range s.ends {
		if do := m.meeting(s, e); do != nil {
			out = append(out, choice{do})
		}
	}
	if len(out) == 0 && s.other >= 0 {
		other := s.other
		return one(func() {
			s.after(other, nil)
			m.advance(s)
		})
	}
	return out
}

func (m *machine) shut(s *strand) {
	c, is := s.pop().(*pipe)
	if !is || c.closed {
		m.finish(api.Fell, s.node)
		return
	}
	c.closed = true
	m.act(s, act{what: "shut", pipe: c})
	m.say(api.EvClose, s, s.node, nil)
	m.advance(s)
}

func (m *machine) begin(s *strand) {
	if len(m.strands) >= api.MaxThreads {
		m.finish(api.Out, s.node)
		return
	}
	m.say(api.EvGo, s, s.node, int64(len(m.strands)))
	m.call(s, m.nodes[s.node].Kids[0], s.call)
	m.act(s, act{what: "go", other: len(m.strands)})
	fresh := m.newStrand(s.call, s.values)
	m.advance(s)
	m.advance(fresh)
}

// meeting answers how one side is done, or nil.
func (m *machine) meeting(s *strand, e end) func() {
	goOn := func(kind int, held any) {
		m.say(kind, s, e.node, held)
		s.after(e.node, held)
		m.advance(s)
	}
	c := e.pipe
	switch {
	case c == nil:
		return nil
	case e.sends && c.closed:
		return func() { m.finish(api.Fell, e.node) }
	case e.sends && len(c.held) < c.room:
		return func() {
			c.held = append(c.held, e.held)
			m.see(spot{node: c.site, inside: true}, e.held)
			m.act(s, act{what: "send", pipe: c})
			goOn(api.EvSend, e.held)
		}
	case !e.sends && len(c.held) > 0:
		return func() {
			held := c.held[0]
			c.held = c.held[1:]
			m.act(s, act{what: "take", pipe: c})
			goOn(api.EvRecv, held)
		}
	case !e.sends && c.closed:
		return func() {
			m.act(s, act{what: "empty", pipe: c})
			goOn(api.EvRecv, c.zero)
		}
	case c.room > 0:
		return nil
	}
	for _, other := range m.strands {
		for _, b := range other.ends {
			if other != s && !other.gone && b.pipe == c && b.sends != e.sends {
				return func() { m.handOver(s, e, other, b) }
			}
		}
	}
	return nil
}

func (m *machine) handOver(s *strand, e end, other *strand, b end) {
	if e.sends {
		m.see(spot{node: e.pipe.site, inside: true}, e.held)
		m.say(api.EvSend, s, e.node, e.held)
		m.say(api.EvRecv, other, b.node, e.held)
		m.act(s, act{what: "send", pipe: e.pipe})
		m.act(other, act{what: "take", pipe: e.pipe})
	} else {
		m.see(spot{node: e.pipe.site, inside: true}, b.held)
		m.say(api.EvSend, other, b.node, b.held)
		m.say(api.EvRecv, s, e.node, b.held)
		m.act(other, act{what: "send", pipe: e.pipe})
		m.act(s, act{what: "take", pipe: e.pipe})
	}
	s.after(e.node, b.held)
	other.after(b.node, e.held)
	m.advance(s)
	m.advance(other)
}
