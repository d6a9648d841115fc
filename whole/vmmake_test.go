package whole

import (
	"math/rand"
	"slices"

	"ravel/api"
	"ravel/code"
)

// sort is what a value is meant to be: the number of the first slot that variables of it have.
type sort int

const (
	numbers   sort = 0
	channels  sort = 2
	things    sort = 4
	functions sort = 6
	slotsEach      = 8
)

// orderly writes code that may be, by chance: statements, ahead of which and behind which there are as many values. All functions have the same slots, so that what is taken fits.
type orderly struct {
	*rand.Rand
	code api.Code
	wild int // one value of so many is of another sort
	left int // how many more statements are to be written
}

func (o *orderly) put(do int, numbers ...int) int {
	op := api.Op{Do: do}
	for i, number := range numbers {
		*[]*int{&op.A, &op.B}[i] = number
	}
	o.code.Ops = append(o.code.Ops, op)
	return len(o.code.Ops) - 1
}

// land lets an order go on at the next one.
func (o *orderly) land(at int) {
	if op := &o.code.Ops[at]; op.Do == api.OpCase || op.Do == api.OpElse {
		op.B = len(o.code.Ops)
	} else {
		op.A = len(o.code.Ops)
	}
}

func (o *orderly) anySort() sort {
	return sort(2 * o.Intn(4))
}

// value writes orders that put one value.
func (o *orderly) value(of sort, deep int) {
	if o.Intn(o.wild) == 0 {
		of = o.anySort()
	}
	// Who has a channel of its own meets nobody.
	if deep <= 0 || o.Intn(3) == 0 || of == channels && o.Intn(8) > 0 {
		o.put(api.OpLoad, int(of)+o.Intn(2))
		return
	}
	switch o.Intn(12) {
	case 0:
		o.call(deep - 1)
		return
	case 1:
		o.value(channels, deep-1)
		o.put(api.OpRecv)
		return
	case 2:
		o.value(things, deep-1)
		o.put(api.OpGet, o.field(of))
		return
	}
	switch of {
	case numbers:
		o.number(deep)
	case channels:
		o.put(api.OpChan, []int{0, 0, 1, 2, api.MaxRoom}[o.Intn(5)])
	case things:
		o.put(api.OpNew, o.Intn(len(o.code.Kinds)))
		if o.Intn(4) == 0 {
			o.put(api.OpIs, o.Intn(len(o.code.Kinds)))
		}
	case functions:
		o.function(deep)
	}
}

// field answers a field that is meant to have values of a sort.
func (o *orderly) field(of sort) int {
	if o.Intn(o.wild) == 0 {
		return o.Intn(6)
	}
	return int(of) / 2
}

func (o *orderly) number(deep int) {
	switch o.Intn(9) {
	case 0, 1:
		o.put(api.OpNum, []int{0, 1, 2, 3, -1, 1 << 62}[o.Intn(6)])
	case 2, 3, 4:
		o.value(o.comparedSort(), deep-1)
		o.value(o.comparedSort(), deep-1)
		o.put(api.OpTwo, o.Intn(11))
	case 5:
		o.value(numbers, deep-1)
		o.put(api.OpNot)
	case 6:
		o.value(numbers, deep-1)
		o.put(api.OpNeg)
	case 7:
		o.value(numbers, deep-1)
		end := o.put(api.OpShort, 0, o.Intn(2))
		o.value(numbers, deep-1)
		o.land(end)
	default:
		o.put(api.OpLoad, o.Intn(2))
	}
}

func (o *orderly) comparedSort() sort {
	if o.Intn(4) == 0 {
		return o.anySort()
	}
	return numbers
}

func (o *orderly) function(deep int) {
	switch o.Intn(4) {
	case 0:
		o.value(numbers, deep-1)
		o.put(api.OpBind, o.Intn(len(o.code.Fns)))
	case 1:
		o.value(things, deep-1)
		o.put(api.OpFind, o.Intn(3))
	default:
		o.put(api.OpMake, o.Intn(len(o.code.Fns)))
	}
}

// called writes what is called, and its values, and answers how many: mostly as many as it asks for.
func (o *orderly) called(deep int) int {
	if o.Intn(3) > 0 {
		o.put(api.OpMake, o.Intn(len(o.code.Fns)))
	} else {
		o.value(functions, deep)
	}
	many := o.Intn(3)
	if last := o.code.Ops[len(o.code.Ops)-1]; o.Intn(o.wild) > 0 {
		switch last.Do {
		case api.OpMake:
			many = o.code.Fns[last.A].Params
		case api.OpBind:
			many = max(0, o.code.Fns[last.A].Params-1)
		}
	}
	for param := range many {
		o.value(sort(param&^1), deep-1)
	}
	return many
}

func (o *orderly) call(deep int) {
	o.put(api.OpCall, o.called(deep))
}

// stmt writes orders that leave as many values as there were.
func (o *orderly) stmt(deep int) {
	o.left--
	of := o.anySort()
	switch o.Intn(20) {
	case 0, 1:
		o.value(of, 2)
		o.put(api.OpStore, int(of)+o.Intn(2))
	case 2:
		o.value(of, 2)
		o.put(api.OpVar, int(of)+o.Intn(2))
	case 3, 4:
		o.value(numbers, 2)
		o.put(api.OpPrint)
	case 5, 6:
		o.value(channels, 1)
		o.value(numbers, 1)
		o.put(api.OpSend)
	case 7, 16:
		o.value(channels, 1)
		o.put(api.OpRecv)
		o.put(api.OpStore, o.Intn(2))
	case 8:
		o.value(things, 1)
		o.value(of, 1)
		o.put(api.OpPut, o.field(of))
	case 9, 10, 17:
		o.put(api.OpGo, o.called(1))
	case 11:
		o.call(1)
		o.put(api.OpDrop)
	case 12, 18:
		o.selects(deep - 1)
	case 13:
		o.choice(deep - 1)
	case 14:
		o.round(deep - 1)
	default:
		o.rare()
	}
}

// rare writes what ends runs, mostly.
func (o *orderly) rare() {
	switch o.Intn(4) {
	case 0:
		o.value(channels, 1)
		o.put(api.OpClose)
	case 1:
		o.value(numbers, 1)
		on := o.put(api.OpUnless, 0)
		o.value(numbers, 1)
		o.put(api.OpPanic)
		o.land(on)
	case 2:
		o.value(numbers, 1)
		on := o.put(api.OpUnless, 0)
		o.value(o.anySort(), 1)
		o.put(api.OpRet)
		o.land(on)
	}
}

func (o *orderly) block(deep int) {
	for range 1 + o.Intn(3) {
		if deep > 0 && o.left > 0 {
			o.stmt(deep)
		}
	}
}

func (o *orderly) choice(deep int) {
	o.value(numbers, 1)
	otherwise := o.put(api.OpUnless, 0)
	o.block(deep)
	end := o.put(api.OpJump, 0)
	o.land(otherwise)
	o.block(deep)
	o.land(end)
}

func (o *orderly) round(deep int) {
	from := len(o.code.Ops)
	o.value(numbers, 1)
	end := o.put(api.OpUnless, 0)
	o.block(deep)
	o.put(api.OpLoad, 0)
	o.put(api.OpNum, 1)
	o.put(api.OpTwo, 1)
	o.put(api.OpStore, 0)
	o.put(api.OpJump, from)
	o.land(end)
}

func (o *orderly) selects(deep int) {
	var cases []api.Op
	for range o.Intn(4) {
		cases = append(cases, api.Op{Do: api.OpCase, A: o.Intn(2)})
	}
	if o.Intn(3) == 0 {
		cases = slices.Insert(cases, o.Intn(len(cases)+1), api.Op{Do: api.OpElse})
	}
	for _, op := range cases {
		if op.Do == api.OpCase {
			o.value(channels, 1)
			if op.A == 1 {
				o.value(o.comparedSort(), 1)
			}
		}
	}
	first := o.put(api.OpSelect, len(cases)) + 1
	for _, op := range cases {
		o.put(op.Do, op.A)
	}
	var ends []int
	for i, op := range cases {
		o.land(first + i)
		if op.Do == api.OpCase && op.A == 0 {
			o.put(api.OpStore, o.Intn(2))
		}
		o.block(deep)
		ends = append(ends, o.put(api.OpJump, 0))
	}
	for _, end := range ends {
		o.land(end)
	}
}

// orderlyCode answers code that is right.
func orderlyCode(r *rand.Rand) api.Code {
	o := orderly{Rand: r, wild: []int{4, 20, 60, 1000}[r.Intn(4)]}
	o.code.Fns = []api.Fn{{Slots: slotsEach}}
	for range 1 + r.Intn(4) {
		fn := api.Fn{Params: []int{0, 0, 1, 2, 3}[r.Intn(5)], Slots: slotsEach}
		// What it takes is where it was.
		for slot := fn.Params; slot < slotsEach && r.Intn(20) > 0; slot++ {
			fn.Takes = append(fn.Takes, slot)
		}
		if r.Intn(10) == 0 {
			r.Shuffle(len(fn.Takes), func(i, k int) { fn.Takes[i], fn.Takes[k] = fn.Takes[k], fn.Takes[i] })
		}
		o.code.Fns = append(o.code.Fns, fn)
	}
	for range 1 + r.Intn(2) {
		kind := []int{r.Intn(6)}
		for range r.Intn(4) {
			kind = append(kind, r.Intn(len(o.code.Fns)+1)-1)
		}
		o.code.Kinds = append(o.code.Kinds, kind)
	}
	for i := range o.code.Fns {
		o.code.Fns[i].From = len(o.code.Ops)
		o.left = 12
		if i == 0 || r.Intn(4) == 0 {
			o.start()
		}
		for range r.Intn(4) {
			if i == 0 {
				o.put(api.OpGo, o.called(1))
			}
		}
		for range 1 + r.Intn(5) {
			o.stmt(3)
		}
		o.value(o.anySort(), 2)
		o.put(api.OpRet)
	}
	if wrong := code.Check(o.code); wrong != api.OK {
		panic(wrong)
	}
	return o.code
}

// start gives variables what they are meant to have.
func (o *orderly) start() {
	for slot, do := range []int{api.OpNum, api.OpNum, api.OpChan, api.OpChan, api.OpNew, api.OpNew, api.OpMake, api.OpMake} {
		number := 0
		switch do {
		case api.OpNum:
			number = o.Intn(5)
		case api.OpChan:
			number = []int{0, 0, 1, 3}[o.Intn(4)]
		case api.OpMake:
			number = o.Intn(len(o.code.Fns))
		}
		o.put(do, number)
		o.put(api.OpVar, slot)
	}
}
