package code

import (
	"slices"

	"ravel/api"
)

// rule is what an order has to be, and what it does with the stack of values.
type rule struct {
	a, b  func(number int) bool // what its numbers have to be; nil: 0
	takes int
	more  bool // it takes A values more
	puts  int
}

// allows tells whether an order's numbers are what they have to be.
func (r rule) allows(op api.Op) bool {
	return isAs(r.a, op.A) && isAs(r.b, op.B)
}

func isAs(asked func(number int) bool, number int) bool {
	if asked == nil {
		return number == 0
	}
	return asked(number)
}

// upTo answers what asks for a number from 0 on up to a last one.
func upTo(last int) func(number int) bool {
	return func(number int) bool { return 0 <= number && number <= last }
}

// rules answers the rules of all orders that there are, by what they do: some hang on how much there is in the code.
func rules(c api.Code) map[int]rule {
	few, truth := upTo(api.MaxNodes), upTo(1)
	order, function, kind := upTo(len(c.Ops)-1), upTo(len(c.Fns)-1), upTo(len(c.Kinds)-1)
	return map[int]rule{
		api.OpNum:    {a: func(int) bool { return true }, puts: 1},
		api.OpLoad:   {a: few, puts: 1},
		api.OpStore:  {a: few, takes: 1},
		api.OpVar:    {a: few, takes: 1},
		api.OpMake:   {a: function, puts: 1},
		api.OpNew:    {a: kind, puts: 1},
		api.OpChan:   {a: upTo(api.MaxRoom), puts: 1},
		api.OpGet:    {a: few, takes: 1, puts: 1},
		api.OpPut:    {a: few, takes: 2},
		api.OpBind:   {a: function, takes: 1, puts: 1},
		api.OpFind:   {a: few, takes: 1, puts: 1},
		api.OpIs:     {a: kind, takes: 1, puts: 1},
		api.OpNot:    {takes: 1, puts: 1},
		api.OpNeg:    {takes: 1, puts: 1},
		api.OpTwo:    {a: upTo(10), takes: 2, puts: 1},
		api.OpJump:   {a: order},
		api.OpUnless: {a: order, takes: 1},
		api.OpShort:  {a: order, b: truth, takes: 1},
		api.OpCall:   {a: few, takes: 1, more: true, puts: 1},
		api.OpRet:    {takes: 1},
		api.OpDrop:   {takes: 1},
		api.OpPanic:  {takes: 1},
		api.OpSend:   {takes: 2},
		api.OpRecv:   {takes: 1, puts: 1},
		api.OpClose:  {takes: 1},
		api.OpPrint:  {takes: 1},
		api.OpGo:     {a: few, takes: 1, more: true},
		api.OpSelect: {a: few},
		api.OpCase:   {a: truth, b: order},
		api.OpElse:   {b: order},
	}
}

// isOfSize tells whether there are neither too many orders, functions and kinds, nor no function.
func isOfSize(c api.Code) bool {
	return len(c.Ops) <= api.MaxCode && len(c.Kinds) <= api.MaxNodes && 0 < len(c.Fns) && len(c.Fns) <= api.MaxNodes
}

// isInRange tells whether all numbers of functions, kinds and orders are what they have to be.
func isInRange(c api.Code) bool {
	known := rules(c)
	for _, op := range c.Ops {
		if r, is := known[op.Do]; !is || !r.allows(op) {
			return false
		}
	}
	for _, fn := range c.Fns {
		if !mayBeFunction(fn, len(c.Ops)) {
			return false
		}
	}
	for _, kind := range c.Kinds {
		if !mayBeKind(kind, len(c.Fns)) {
			return false
		}
	}
	return true
}

func mayBeFunction(fn api.Fn, orders int) bool {
	few := upTo(api.MaxNodes)
	return few(fn.Slots) && upTo(fn.Slots)(fn.Params) && upTo(orders-1)(fn.From) &&
		len(fn.Takes) <= fn.Slots-fn.Params && allAre(fn.Takes, few)
}

func mayBeKind(kind []int, functions int) bool {
	if len(kind) == 0 || len(kind) > api.MaxNodes {
		return false
	}
	return upTo(api.MaxNodes)(kind[0]) && allAre(kind[1:], func(method int) bool { return -1 <= method && method < functions })
}

func allAre(numbers []int, asked func(number int) bool) bool {
	return !slices.ContainsFunc(numbers, func(number int) bool { return !asked(number) })
}
