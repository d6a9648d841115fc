package code

import (
	"slices"

	"ravel/api"
)

// step is a way on: to which order, and how many values more there are then.
type step struct {
	to, more int
}

// stop is what an order asks of who comes there, and where one goes on.
type stop struct {
	shut  bool // nobody may come there
	needs int  // values
	slots int
	ways  []step
}

// lets tells whether one may come there with so many values, in a function with so many slots.
func (s stop) lets(values, slots int) bool {
	return !s.shut && s.needs <= values && values <= api.MaxNodes && s.slots <= slots
}

// isInForm tells whether from each function on all is well wherever one can come, when all numbers are what they have to be.
func isInForm(c api.Code) bool {
	// Functions may share orders, so these are looked at once, ahead of all of them.
	stops := lookAt(c)
	return !slices.ContainsFunc(c.Fns, func(fn api.Fn) bool { return !canGo(stops, fn) })
}

// canGo tells whether all is well wherever one can come from a function on.
func canGo(stops []stop, fn api.Fn) bool {
	values := slices.Repeat([]int{-1}, len(stops)) // with how many one comes to each order; -1: one did not yet
	todo := []step{{to: fn.From}}                  // from no value on, so that there are as many as come more
	for len(todo) > 0 {
		here := todo[len(todo)-1]
		todo = todo[:len(todo)-1]
		if here.to == len(stops) {
			return false
		}
		if values[here.to] == here.more {
			continue
		}
		s := stops[here.to]
		if values[here.to] >= 0 || !s.lets(here.more, fn.Slots) {
			return false
		}
		values[here.to] = here.more
		for _, way := range s.ways {
			todo = append(todo, step{way.to, here.more + way.more})
		}
	}
	return true
}

func lookAt(c api.Code) []stop {
	known := rules(c)
	var out []stop
	for at, op := range c.Ops {
		out = append(out, stopOf(c, known[op.Do], at))
	}
	return out
}

func stopOf(c api.Code, r rule, at int) stop {
	op := c.Ops[at]
	s := stop{needs: r.takes}
	if r.more {
		s.needs += op.A
	}
	next := step{at + 1, r.puts - s.needs}
	switch op.Do {
	case api.OpCase, api.OpElse:
		s.shut = true
	case api.OpSelect:
		return selectStop(c.Ops[at+1:], op.A)
	case api.OpRet, api.OpPanic:
		return s
	case api.OpJump:
		s.ways = []step{{to: op.A}}
		return s
	case api.OpUnless:
		s.ways = []step{{op.A, -1}}
	case api.OpShort:
		// Who goes on elsewhere keeps the value.
		s.ways = []step{{op.A, 0}}
	case api.OpLoad, api.OpStore, api.OpVar:
		s.slots = op.A + 1
	case api.OpMake:
		s.slots = slotsFor(c.Fns[op.A].Takes)
	}
	s.ways = append(s.ways, next)
	return s
}

// slotsFor answers how many slots there have to be, so that some can be taken.
func slotsFor(takes []int) int {
	if len(takes) == 0 {
		return 0
	}
	return slices.Max(takes) + 1
}

// selectStop looks at an OpSelect with so many cases, by what stands behind it.
func selectStop(behind []api.Op, many int) stop {
	if len(behind) < many {
		return stop{shut: true}
	}
	s := stop{}
	elses := 0
	for _, op := range behind[:many] {
		switch op.Do {
		case api.OpCase:
			// The channel, and the value, if it sends.
			s.needs += 1 + op.A
		case api.OpElse:
			elses++
		default:
			return stop{shut: true}
		}
	}
	s.shut = elses > 1
	for _, op := range behind[:many] {
		s.ways = append(s.ways, step{op.B, received(op) - s.needs})
	}
	return s
}

// received answers how many values a case puts.
func received(op api.Op) int {
	if op.Do == api.OpCase && op.A == 0 {
		return 1
	}
	return 0
}
