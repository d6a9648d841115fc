package code

import "ravel/api"

// most is the greatest number of how many that is read.
const most = 10000

// writer writes numbers as bytes.
type writer struct {
	bytes []byte
}

// numbers writes each number as 7 bits a byte, the lowest ones first. Numbers below 0 stand between the others, so that small ones are short.
func (w *writer) numbers(list ...int) {
	for _, number := range list {
		bits := uint64(number) << 1
		if number < 0 {
			bits = ^bits
		}
		for bits >= 128 {
			w.bytes = append(w.bytes, byte(bits)|128)
			bits >>= 7
		}
		w.bytes = append(w.bytes, byte(bits))
	}
}

// list writes how many numbers there are, and these.
func (w *writer) list(numbers []int) {
	w.numbers(len(numbers))
	w.numbers(numbers...)
}

func (w *writer) code(c api.Code) {
	w.numbers(len(c.Ops), len(c.Fns), len(c.Kinds))
	for _, op := range c.Ops {
		w.numbers(op.Do, op.A, op.B)
	}
	for _, fn := range c.Fns {
		w.numbers(fn.Params, fn.Slots, fn.From)
		w.list(fn.Takes)
	}
	for _, kind := range c.Kinds {
		w.list(kind)
	}
}

// reader reads numbers from bytes, up to the first thing that is wrong.
type reader struct {
	left  []byte
	wrong api.Errno
}

// fail tells what is wrong, unless something was wrong ahead of it. Nothing is read any more.
func (r *reader) fail(wrong api.Errno) {
	if r.wrong == api.OK {
		r.wrong = wrong
	}
	r.left = nil
}

// number reads a number; 0, if there is none.
func (r *reader) number() int {
	bits := uint64(0)
	for i, b := range r.left {
		// Of the tenth byte just the lowest bit is left of 64.
		if i == 9 && b > 1 {
			break
		}
		bits |= uint64(b&127) << (7 * i)
		if b >= 128 {
			continue
		}
		if i > 0 && b == 0 {
			// The byte is not needed.
			break
		}
		r.left = r.left[i+1:]
		if bits&1 == 1 {
			return int(^(bits >> 1))
		}
		return int(bits >> 1)
	}
	r.fail(api.ErrSyntax)
	return 0
}

// count reads how many of something there are.
func (r *reader) count() int {
	many := r.number()
	if many < 0 || many > most {
		r.fail(api.ErrSize)
		return 0
	}
	return many
}

// each reads so many of something, unless something is wrong.
func (r *reader) each(many int, read func()) {
	for ; many > 0 && r.wrong == api.OK; many-- {
		read()
	}
}

func (r *reader) list() []int {
	var out []int
	r.each(r.count(), func() { out = append(out, r.number()) })
	return out
}

// code reads code, behind which nothing is left.
func (r *reader) code() api.Code {
	var c api.Code
	orders, functions, kinds := r.count(), r.count(), r.count()
	r.each(orders, func() {
		c.Ops = append(c.Ops, api.Op{Do: r.number(), A: r.number(), B: r.number()})
	})
	r.each(functions, func() {
		c.Fns = append(c.Fns, api.Fn{Params: r.number(), Slots: r.number(), From: r.number(), Takes: r.list()})
	})
	r.each(kinds, func() { c.Kinds = append(c.Kinds, r.list()) })
	if len(r.left) > 0 {
		r.fail(api.ErrSyntax)
	}
	return c
}
