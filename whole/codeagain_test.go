package whole

import (
	"slices"

	"ravel/api"
)

// This is a second way to run code: what threads can do at their marks is looked for anew at each turn, among all of them.

// box is a variable.
type box struct{ held any }

// item is a thing of a kind.
type item struct {
	kind   int
	fields []any
}

// worker is a function, with what it has with it, and what it took.
type worker struct {
	number int
	ahead  []any
	took   []*box
}

// level is a call that goes on.
type level struct {
	at    int
	slots []*box
	held  []any
}

// hand is a thread.
type hand struct {
	levels []*level
	gone   bool
	stands int // the order of its mark; -1: its end
	ends   []end
	other  int // where an OpElse goes on; -1: there is none
	values []any
}

type orders struct {
	code  api.Code
	left  []int // of the script
	steps int
	hands []*hand
	over  bool
	trace api.Trace
}

// runOrders runs code that is right.
func runOrders(c api.Code, script []int) api.Trace {
	o := orders{code: c, left: slices.Clone(script)}
	if c.Fns[0].Params > 0 {
		return api.Trace{Status: api.Fell, At: -1}
	}
	o.begin(&worker{}, nil)
	o.advance(o.hands[0])
	for !o.over {
		o.turn()
	}
	return o.trace
}

func (o *orders) finish(status, at int) {
	if !o.over {
		o.over, o.trace.Status, o.trace.At = true, status, at
	}
}

func numberOf(held any) int64 {
	number, _ := held.(int64)
	return number
}

func (o *orders) say(kind int, h *hand, node int, held any) {
	o.trace.Events = append(o.trace.Events, api.Event{Kind: kind, Thread: slices.Index(o.hands, h), Node: node, Num: int(numberOf(held))})
}

func (o *orders) begin(w *worker, values []any) *hand {
	h := &hand{}
	o.hands = append(o.hands, h)
	o.enter(h, w, values)
	return h
}

func (o *orders) enter(h *hand, w *worker, values []any) {
	fn := o.code.Fns[w.number]
	l := &level{at: fn.From}
	for _, held := range append(slices.Clone(w.ahead), values...) {
		l.slots = append(l.slots, &box{held})
	}
	l.slots = append(l.slots, w.took...)
	for len(l.slots) < fn.Slots {
		l.slots = append(l.slots, &box{int64(0)})
	}
	h.levels = append(h.levels, l)
}

// advance does a thread's orders up to its next mark.
func (o *orders) advance(h *hand) {
	h.ends, h.other = nil, -1
	for !o.over {
		if len(h.levels) == 0 {
			h.stands = -1
			return
		}
		l := h.levels[len(h.levels)-1]
		at := l.at
		if o.steps == api.MaxOps {
			o.finish(api.Out, at)
			return
		}
		o.steps++
		l.at++
		if o.order(h, l, at) {
			h.stands = at
			return
		}
	}
}

func (l *level) push(held any) { l.held = append(l.held, held) }

func (l *level) pop() any {
	last := l.held[len(l.held)-1]
	l.held = l.held[:len(l.held)-1]
	return last
}

// popAll takes several values, and answers them in the order in which they were put.
func (l *level) popAll(many int) []any {
	from := len(l.held) - many
	values := slices.Clone(l.held[from:])
	l.held = l.held[:from]
	return values
}

// order does an order, and tells whether it is a mark.
func (o *orders) order(h *hand, l *level, at int) bool {
	op := o.code.Ops[at]
	switch op.Do {
	case api.OpNum:
		l.push(int64(op.A))
	case api.OpLoad:
		l.push(l.slots[op.A].held)
	case api.OpStore:
		l.slots[op.A].held = l.pop()
	case api.OpVar:
		l.slots[op.A] = &box{l.pop()}
	case api.OpMake:
		w := &worker{number: op.A}
		for _, slot := range o.code.Fns[op.A].Takes {
			w.took = append(w.took, l.slots[slot])
		}
		l.push(w)
	case api.OpNew:
		l.push(&item{op.A, slices.Repeat([]any{int64(0)}, o.code.Kinds[op.A][0])})
	case api.OpChan:
		l.push(&pipe{room: op.A, zero: int64(0)})
	case api.OpBind:
		l.push(&worker{number: op.A, ahead: []any{l.pop()}})
	case api.OpGet, api.OpPut, api.OpFind, api.OpIs:
		o.ofThing(l, op, at)
	case api.OpNot:
		l.push(1 - numberOf(l.pop()))
	case api.OpNeg:
		l.push(-numberOf(l.pop()))
	case api.OpTwo:
		right := l.pop()
		o.two(l, at, op.A, l.pop(), right)
	case api.OpJump:
		l.at = op.A
	case api.OpUnless:
		if numberOf(l.pop()) == 0 {
			l.at = op.A
		}
	case api.OpShort:
		if numberOf(l.held[len(l.held)-1]) == int64(op.B) {
			l.at = op.A
		} else {
			l.pop()
		}
	case api.OpDrop:
		l.pop()
	case api.OpPanic:
		o.finish(api.Fell, at)
	default:
		return o.deed(h, l, at)
	}
	return false
}

func (o *orders) ofThing(l *level, op api.Op, at int) {
	var put any
	if op.Do == api.OpPut {
		put = l.pop()
	}
	x, is := l.pop().(*item)
	if !is {
		o.finish(api.Fell, at)
		return
	}
	switch methods := o.code.Kinds[x.kind][1:]; {
	case op.Do == api.OpIs && x.kind == op.A:
		l.push(x)
	case op.Do == api.OpGet && op.A < len(x.fields):
		l.push(x.fields[op.A])
	case op.Do == api.OpPut && op.A < len(x.fields):
		x.fields[op.A] = put
	case op.Do == api.OpFind && op.A < len(methods) && methods[op.A] >= 0:
		l.push(&worker{number: methods[op.A], ahead: []any{x}})
	default:
		o.finish(api.Fell, at)
	}
}

func (o *orders) two(l *level, at, sign int, left, right any) {
	is := func(so bool) int64 {
		if so {
			return 1
		}
		return 0
	}
	a, b := numberOf(left), numberOf(right)
	switch {
	case (sign == 3 || sign == 4) && b == 0:
		o.finish(api.Fell, at)
		return
	case sign == 3:
		a /= b
	case sign == 4:
		a %= b
	default:
		a = []int64{a + b, a - b, a * b, 0, 0, is(a < b), is(a <= b), is(a > b), is(a >= b), is(left == right), is(left != right)}[sign]
	}
	l.push(a)
}

// deed does an order that has to do with calls or with other threads.
func (o *orders) deed(h *hand, l *level, at int) bool {
	op := o.code.Ops[at]
	switch op.Do {
	case api.OpRet:
		back := l.pop()
		h.levels = h.levels[:len(h.levels)-1]
		if len(h.levels) > 0 {
			h.levels[len(h.levels)-1].push(back)
		}
		return false
	case api.OpCall, api.OpGo:
		values := l.popAll(op.A)
		w, is := l.pop().(*worker)
		if !is || o.code.Fns[w.number].Params != len(w.ahead)+len(values) || op.Do == api.OpCall && len(h.levels) > api.MaxCalls {
			o.finish(api.Fell, at)
			return false
		}
		if op.Do == api.OpCall {
			o.enter(h, w, values)
			return false
		}
		h.values = append([]any{w}, values...)
	case api.OpClose, api.OpPrint:
		h.values = l.popAll(1)
	case api.OpSend:
		values := l.popAll(2)
		c, _ := values[0].(*pipe)
		h.ends = []end{{at, c, true, values[1]}}
	case api.OpRecv:
		c, _ := l.pop().(*pipe)
		h.ends = []end{{node: at, pipe: c}}
	case api.OpSelect:
		o.cases(h, l, at)
	}
	return true
}

func (o *orders) cases(h *hand, l *level, at int) {
	for i := at + o.code.Ops[at].A; i > at; i-- {
		op := o.code.Ops[i]
		if op.Do == api.OpElse {
			h.other = op.B
			continue
		}
		e := end{node: i, sends: op.A == 1}
		if e.sends {
			e.held = l.pop()
		}
		e.pipe, _ = l.pop().(*pipe)
		h.ends = append([]end{e}, h.ends...)
	}
}

func (o *orders) choose(many int) int {
	if many == 1 || len(o.left) == 0 {
		return 0
	}
	number := o.left[0]
	o.left = o.left[1:]
	return (number%many + many) % many
}

// turn lets one thread do one thing.
func (o *orders) turn() {
	var all [][]func()
	for _, h := range o.hands {
		if deeds := o.deeds(h); len(deeds) > 0 {
			all = append(all, deeds)
		}
	}
	if len(all) == 0 {
		o.finish(api.Stuck, -1)
		return
	}
	deeds := all[o.choose(len(all))]
	deeds[o.choose(len(deeds))]()
}

// deeds answers all that a thread can do at its mark.
func (o *orders) deeds(h *hand) []func() {
	switch {
	case h.gone:
		return nil
	case h.stands < 0:
		return []func(){func() {
			o.say(api.EvEnd, h, -1, nil)
			h.gone = true
			if h == o.hands[0] {
				o.finish(api.Done, -1)
			}
		}}
	}
	if do := o.code.Ops[h.stands].Do; do == api.OpPrint || do == api.OpClose || do == api.OpGo {
		return []func(){func() { o.alone(h, do) }}
	}
	var out []func()
	for _, e := range h.ends {
		if do := o.meeting(h, e); do != nil {
			out = append(out, do)
		}
	}
	if len(out) == 0 && h.other >= 0 {
		other := h.other
		out = append(out, func() {
			h.levels[len(h.levels)-1].at = other
			o.advance(h)
		})
	}
	return out
}

// alone does a mark to which nobody else is needed.
func (o *orders) alone(h *hand, do int) {
	switch do {
	case api.OpPrint:
		o.say(api.EvPrint, h, h.stands, h.values[0])
	case api.OpClose:
		c, is := h.values[0].(*pipe)
		if !is || c.closed {
			o.finish(api.Fell, h.stands)
			return
		}
		c.closed = true
		o.say(api.EvClose, h, h.stands, nil)
	case api.OpGo:
		if len(o.hands) == api.MaxThreads {
			o.finish(api.Out, h.stands)
			return
		}
		o.say(api.EvGo, h, h.stands, int64(len(o.hands)))
		fresh := o.begin(h.values[0].(*worker), h.values[1:])
		o.advance(h)
		o.advance(fresh)
		return
	}
	o.advance(h)
}

// behind lets a thread go on behind one side of what was handed over.
func (o *orders) behind(h *hand, e end, held any) {
	l := h.levels[len(h.levels)-1]
	if op := o.code.Ops[e.node]; op.Do == api.OpCase {
		l.at = op.B
	}
	if !e.sends {
		l.push(held)
	}
}

// meeting answers how one side is done, or nil.
func (o *orders) meeting(h *hand, e end) func() {
	c := e.pipe
	if c == nil {
		return nil
	}
	goOn := func(kind int, held any) {
		o.say(kind, h, e.node, held)
		o.behind(h, e, held)
		o.advance(h)
	}
	switch {
	case e.sends && c.closed:
		return func() { o.finish(api.Fell, e.node) }
	case e.sends && len(c.held) < c.room:
		return func() {
			c.held = append(c.held, e.held)
			goOn(api.EvSend, e.held)
		}
	case !e.sends && len(c.held) > 0:
		return func() {
			first := c.held[0]
			c.held = c.held[1:]
			goOn(api.EvRecv, first)
		}
	case !e.sends && c.closed:
		return func() { goOn(api.EvRecv, c.zero) }
	case c.room > 0:
		return nil
	}
	for _, other := range o.hands {
		for _, b := range other.ends {
			if other != h && b.pipe == c && b.sends != e.sends {
				return func() { o.handOver(h, e, other, b) }
			}
		}
	}
	return nil
}

func (o *orders) handOver(h *hand, e end, other *hand, b end) {
	from, sent, to, taken := h, e, other, b
	if b.sends {
		from, sent, to, taken = other, b, h, e
	}
	o.say(api.EvSend, from, sent.node, sent.held)
	o.say(api.EvRecv, to, taken.node, sent.held)
	o.behind(from, sent, nil)
	o.behind(to, taken, sent.held)
	o.advance(h)
	o.advance(other)
}
