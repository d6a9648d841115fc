package code

import (
	"fmt"
	"math"
	"slices"
	"testing"

	"ravel/api"
)

// codeOf answers code with these orders and functions, and two kinds. Without functions there is one, which has two slots.
func codeOf(ops string, fns ...api.Fn) api.Code {
	if len(fns) == 0 {
		fns = []api.Fn{{Slots: 2}}
	}
	return api.Code{Ops: orders(ops), Fns: fns, Kinds: [][]int{{2, -1, 0}, {0}}}
}

func holdCheck(t *testing.T, what any, c api.Code, want api.Errno) {
	t.Helper()
	if got := Check(c); got != want {
		t.Errorf("%v: %d, not %d", what, got, want)
	}
}

// TestCheckSize: Q2: ErrSize, ahead of all else.
func TestCheckSize(t *testing.T) {
	ret := api.Op{Do: api.OpRet}
	ops := func(many int) []api.Op {
		return append([]api.Op{{Do: api.OpNum}}, slices.Repeat([]api.Op{ret}, many-1)...)
	}
	one := []api.Fn{{}}
	for _, x := range []struct {
		what string
		code api.Code
		want api.Errno
	}{
		{"nothing", api.Code{}, api.ErrSize},
		{"no function", api.Code{Ops: ops(2), Kinds: [][]int{{0}}}, api.ErrSize},
		{"an empty list of functions", api.Code{Ops: ops(2), Fns: []api.Fn{}}, api.ErrSize},
		{"all orders that may be", api.Code{Ops: ops(api.MaxCode), Fns: one}, api.OK},
		{"one more", api.Code{Ops: ops(api.MaxCode + 1), Fns: one}, api.ErrSize},
		{"all functions that may be", api.Code{Ops: ops(2), Fns: slices.Repeat(one, api.MaxNodes)}, api.OK},
		{"one more", api.Code{Ops: ops(2), Fns: slices.Repeat(one, api.MaxNodes+1)}, api.ErrSize},
		{"all kinds that may be", api.Code{Ops: ops(2), Fns: one, Kinds: slices.Repeat([][]int{{0}}, api.MaxNodes)}, api.OK},
		{"one more", api.Code{Ops: ops(2), Fns: one, Kinds: slices.Repeat([][]int{{0}}, api.MaxNodes+1)}, api.ErrSize},
		{"numbers that may not be", api.Code{Ops: slices.Repeat([]api.Op{{Do: 77}}, api.MaxCode+1), Fns: one}, api.ErrSize},
		{"functions that may not be", api.Code{Fns: slices.Repeat([]api.Fn{{Slots: -1}}, api.MaxNodes+1)}, api.ErrSize},
		{"kinds that may not be", api.Code{Ops: ops(2), Fns: one, Kinds: make([][]int, api.MaxNodes+1)}, api.ErrSize},
		{"no order", api.Code{Fns: one}, api.ErrRange},
	} {
		holdCheck(t, x.what, x.code, x.want)
	}
}

// TestCheckFunctions: Q2: ErrRange of functions.
func TestCheckFunctions(t *testing.T) {
	const most = api.MaxNodes
	for _, x := range []struct {
		fn   api.Fn
		want api.Errno
	}{
		{api.Fn{}, api.OK},
		{api.Fn{From: 1}, api.ErrForm}, // there is no value to give back
		{api.Fn{From: 2}, api.ErrRange},
		{api.Fn{From: -1}, api.ErrRange},
		{api.Fn{From: math.MaxInt}, api.ErrRange},
		{api.Fn{From: math.MinInt}, api.ErrRange},
		{api.Fn{Params: 1, Slots: 1}, api.OK},
		{api.Fn{Params: 1}, api.ErrRange},
		{api.Fn{Params: -1}, api.ErrRange},
		{api.Fn{Params: most, Slots: most}, api.OK},
		{api.Fn{Params: most + 1, Slots: most}, api.ErrRange},
		{api.Fn{Params: most + 1, Slots: most + 1}, api.ErrRange},
		{api.Fn{Slots: most + 1}, api.ErrRange},
		{api.Fn{Slots: -1}, api.ErrRange},
		{api.Fn{Params: -2, Slots: -1}, api.ErrRange},
		{api.Fn{Params: math.MinInt, Slots: math.MaxInt}, api.ErrRange},
		{api.Fn{Params: math.MinInt, Slots: math.MinInt}, api.ErrRange},
		{api.Fn{Slots: 1, Takes: []int{0}}, api.OK},
		{api.Fn{Slots: 3, Params: 1, Takes: []int{most, most}}, api.OK},
		{api.Fn{Slots: 3, Params: 1, Takes: []int{0, 1, 2}}, api.ErrRange},
		{api.Fn{Takes: []int{0}}, api.ErrRange},
		{api.Fn{Slots: 2, Takes: []int{0, most + 1}}, api.ErrRange},
		{api.Fn{Slots: 2, Takes: []int{-1, 0}}, api.ErrRange},
		{api.Fn{Slots: 2, Takes: []int{math.MaxInt}}, api.ErrRange},
		{api.Fn{Slots: most, Takes: make([]int, most)}, api.OK},
		{api.Fn{Slots: most, Takes: make([]int, most+1)}, api.ErrRange},
	} {
		holdCheck(t, x.fn, codeOf("num; ret", x.fn), x.want)
		holdCheck(t, x.fn, codeOf("num; ret", api.Fn{}, x.fn), x.want)
	}
}

// TestCheckKinds: Q2: ErrRange of kinds.
func TestCheckKinds(t *testing.T) {
	const most = api.MaxNodes
	for _, x := range []struct {
		kind []int
		want api.Errno
	}{
		{nil, api.ErrRange},
		{[]int{}, api.ErrRange},
		{[]int{0}, api.OK},
		{[]int{most}, api.OK},
		{[]int{most + 1}, api.ErrRange},
		{[]int{-1}, api.ErrRange},
		{[]int{math.MinInt}, api.ErrRange},
		{[]int{0, -1, 0, 1}, api.OK},
		{[]int{0, -1, 0, 2}, api.ErrRange},
		{[]int{0, 1, -2}, api.ErrRange},
		{[]int{0, math.MaxInt}, api.ErrRange},
		{[]int{0, math.MinInt}, api.ErrRange},
		{make([]int, most), api.OK},
		{make([]int, most+1), api.ErrRange},
	} {
		c := codeOf("num; ret", api.Fn{}, api.Fn{})
		c.Kinds = [][]int{x.kind}
		holdCheck(t, x.kind, c, x.want)
		c.Kinds = [][]int{{0}, x.kind}
		holdCheck(t, x.kind, c, x.want)
	}
}

// TestCheckOrders: Q2: ErrRange of orders: to the last of these nobody comes, so just its numbers count.
func TestCheckOrders(t *testing.T) {
	const fns, kinds, ops = 2, 2, 3
	few, fn, kind, order, nought, truth := []int{0, api.MaxNodes}, []int{0, fns - 1}, []int{0, kinds - 1}, []int{0, ops - 1}, []int{0, 0}, []int{0, 1}
	all := []int{math.MinInt, math.MaxInt}
	rules := map[int][2][]int{
		api.OpNum: {all, nought}, api.OpLoad: {few, nought}, api.OpStore: {few, nought}, api.OpVar: {few, nought}, api.OpMake: {fn, nought},
		api.OpNew: {kind, nought}, api.OpChan: {{0, api.MaxRoom}, nought}, api.OpGet: {few, nought}, api.OpPut: {few, nought}, api.OpBind: {fn, nought},
		api.OpFind: {few, nought}, api.OpIs: {kind, nought}, api.OpNot: {nought, nought}, api.OpNeg: {nought, nought}, api.OpTwo: {{0, 10}, nought},
		api.OpJump: {order, nought}, api.OpUnless: {order, nought}, api.OpShort: {order, truth}, api.OpCall: {few, nought}, api.OpRet: {nought, nought},
		api.OpDrop: {nought, nought}, api.OpPanic: {nought, nought}, api.OpSend: {nought, nought}, api.OpRecv: {nought, nought}, api.OpClose: {nought, nought},
		api.OpPrint: {nought, nought}, api.OpGo: {few, nought}, api.OpSelect: {few, nought}, api.OpCase: {truth, order}, api.OpElse: {nought, order},
	}
	numbers := []int{math.MinInt, math.MinInt + 1, -api.MaxNodes, -2, -1, 0, 1, 2, 3, 4, 7, 8, 9, 10, 11, 12, api.MaxNodes - 1, api.MaxNodes, api.MaxNodes + 1, api.MaxCode, 1 << 32, math.MaxInt - 1, math.MaxInt}
	within := func(number int, bounds []int) bool { return bounds[0] <= number && number <= bounds[1] }
	for do := -2; do < 40; do++ {
		rule, is := rules[do]
		for _, a := range numbers {
			for _, b := range numbers {
				op := api.Op{Do: do, A: a, B: b}
				c := codeOf("num; ret", api.Fn{}, api.Fn{})
				c.Ops = append(c.Ops, op)
				want := api.ErrRange
				if is && within(a, rule[0]) && within(b, rule[1]) {
					want = api.OK
				}
				holdCheck(t, op, c, want)
			}
		}
	}
	for _, do := range []int{math.MinInt, math.MaxInt, 1 << 40} {
		holdCheck(t, do, api.Code{Ops: []api.Op{{Do: do}}, Fns: []api.Fn{{}}}, api.ErrRange)
	}
	// Without kinds there is no kind's number. Ranges are told ahead of the form.
	c := codeOf("num; ret; new")
	c.Kinds = nil
	holdCheck(t, "no kinds", c, api.ErrRange)
	holdCheck(t, "form", codeOf("drop; jump 9"), api.ErrRange)
	holdCheck(t, "form", codeOf("drop", api.Fn{}, api.Fn{Slots: -1}), api.ErrRange)
	holdCheck(t, "form", codeOf("drop"), api.ErrForm)
}

// TestCheckForm: Q2: ErrForm.
func TestCheckForm(t *testing.T) {
	for _, x := range []struct {
		ops  string
		want api.Errno
	}{
		{"num; ret", api.OK},
		{"num; num; ret", api.OK},
		{"num; panic", api.OK},
		{"jump 0", api.OK},
		{"select", api.OK},
		// Behind the last order.
		{"num", api.ErrForm},
		{"num; drop", api.ErrForm},
		{"num; unless 0", api.ErrForm},
		{"num; short 0", api.ErrForm},
		{"num; unless 3; select; num; print", api.ErrForm},
		{"jump 1; num; call", api.ErrForm},
		// Nobody comes there.
		{"num; ret; drop; drop", api.OK},
		{"num; panic; case; else; select 9; load 9", api.OK},
		{"select; num", api.OK},
		{"jump 2; drop; num; ret", api.OK},
		// Too few values.
		{"ret", api.ErrForm},
		{"panic", api.ErrForm},
		{"unless 0", api.ErrForm},
		{"short 0", api.ErrForm},
		// Unlike numbers.
		{"num; jump 0", api.ErrForm},
		{"num; drop; jump 0", api.OK},
		{"num; unless 3; num; num; ret", api.ErrForm},
		{"num; unless 4; num; jump 5; num; ret", api.OK},
		{"num; short 3; num; ret", api.OK},
		{"num; short 3 1; num; ret", api.OK},
		{"num; short 2; num; ret", api.ErrForm},
		{"num; short 1; select", api.OK},
		{"num; short 0; select", api.ErrForm},
		{"num; num; short 0; drop; jump 0", api.ErrForm},
		// Slots: there are two.
		{"load; load 1; ret", api.OK},
		{"load 2; ret", api.ErrForm},
		{"num; store 1; num; ret", api.OK},
		{"num; store 2; num; ret", api.ErrForm},
		{"num; var 1; num; ret", api.OK},
		{"num; var 2; num; ret", api.ErrForm},
		{"load 1200; ret", api.ErrForm},
		// What has other numbers has no slots.
		{"new; get 7; ret", api.OK},
		{"new; num; put 7; num; ret", api.OK},
		{"num; find 9; ret", api.OK},
		// Cases.
		{"case 0 1; num; ret", api.ErrForm},
		{"else 0 1; num; ret", api.ErrForm},
		{"num; unless 2; case 0 3; num; ret", api.ErrForm},
		{"jump 1; else", api.ErrForm},
		{"select 1; else 0 2; num; ret", api.OK},
		{"select 2; else 0 3; else 0 3; num; ret", api.ErrForm},
		{"select 1; else 0 2; else 0 2; num; ret", api.ErrForm},
		{"select 1; else 0 3; else 0 2; num; ret", api.OK},
		{"chan; select 1; case 0 3; ret", api.OK},
		{"chan; select 1; case 0 2", api.ErrForm},
		{"chan; select 1; case 0 3; num; ret", api.OK},
		{"chan; num; select 1; case 1 4; num; ret", api.OK},
		{"chan; num; select 1; case 1 4; ret", api.ErrForm},
		{"chan; select 1; case 1 3; num; ret", api.ErrForm},
		{"select 1; case 0 2; ret", api.ErrForm},
		{"chan; chan; num; chan; select 4; case 0 9; case 1 10; else 0 10; case 0 9; drop; num; ret", api.OK},
		{"chan; chan; num; chan; select 4; case 0 9; case 1 9; else 0 10; case 0 9; drop; num; ret", api.ErrForm},
		{"chan; chan; num; chan; select 4; case 0 9; case 1 10; else 0 9; case 0 9; drop; num; ret", api.ErrForm},
		{"chan; chan; num; chan; select 4; case 0 9; case 1 10; else 0 10; case 0 10; drop; num; ret", api.ErrForm},
		{"chan; num; chan; select 4; case 0 9; case 1 10; else 0 10; case 0 9; drop; num; ret", api.ErrForm},
		// What is below stays.
		{"num; chan; select 2; case 0 5; else 0 6; drop; ret", api.OK},
		{"num; chan; select 2; case 0 6; else 0 6; drop; ret", api.ErrForm},
		// Not as many as are said.
		{"select 2; else 0 2; num; ret", api.ErrForm},
		{"select 1; num; ret", api.ErrForm},
		{"select 1", api.ErrForm},
		{"select 1200; else 0 0", api.ErrForm},
		{"jump 1; select 2; else 0 0", api.ErrForm},
		{"select 1; else; else", api.OK},
		{"chan; chan; select 1; case 0 4; drop; ret", api.OK},
		{"chan; chan; select 2; case 0 4; drop; ret", api.ErrForm},
	} {
		holdCheck(t, x.ops, codeOf(x.ops), x.want)
	}
}

// TestCheckTakes: Q2: of each order: it may not come with fewer values than it takes, and it puts as many as it says.
func TestCheckTakes(t *testing.T) {
	for _, x := range []struct {
		op          string
		takes, puts int
	}{
		{"num 7", 0, 1}, {"load 1", 0, 1}, {"store 1", 1, 0}, {"var 1", 1, 0}, {"make", 0, 1}, {"new 1", 0, 1}, {"chan 8", 0, 1}, {"get 3", 1, 1}, {"put 3", 2, 0},
		{"bind", 1, 1}, {"find 4", 1, 1}, {"is 1", 1, 1}, {"not", 1, 1}, {"neg", 1, 1}, {"two 4", 2, 1}, {"call", 1, 1}, {"call 1", 2, 1}, {"call 5", 6, 1}, {"drop", 1, 0},
		{"send", 2, 0}, {"recv", 1, 1}, {"close", 1, 0}, {"print", 1, 0}, {"go", 1, 0}, {"go 1", 2, 0}, {"go 5", 6, 0},
	} {
		for ahead := range 9 {
			for behind := range 9 {
				text := ""
				for range ahead {
					text += "num; "
				}
				text += x.op
				for range behind {
					text += "; drop"
				}
				want := api.ErrForm
				// Just one value is left for what ends the call.
				if ahead >= x.takes && ahead-x.takes+x.puts > behind {
					want = api.OK
				}
				holdCheck(t, text, codeOf(text+"; ret"), want)
			}
		}
	}
}

// TestCheckTall: Q2: ErrForm, if there are more than MaxNodes values.
func TestCheckTall(t *testing.T) {
	for _, x := range []struct {
		many int
		last string
		want api.Errno
	}{
		{api.MaxNodes, "ret", api.OK},
		{api.MaxNodes + 1, "ret", api.ErrForm},
		{api.MaxNodes, "num; ret", api.ErrForm},
		{api.MaxNodes, "not; ret", api.OK},
		{api.MaxNodes, "short 0; ret", api.ErrForm},
		{api.MaxNodes, fmt.Sprintf("call %d; ret", api.MaxNodes-1), api.OK},
		{api.MaxNodes, fmt.Sprintf("call %d; ret", api.MaxNodes), api.ErrForm},
		{api.MaxNodes, fmt.Sprintf("go %d; num; ret", api.MaxNodes-1), api.OK},
		{api.MaxNodes, fmt.Sprintf("go %d; num; ret", api.MaxNodes), api.ErrForm},
		{api.MaxNodes, "select 1; case 0 1202; ret", api.OK},
		{api.MaxNodes, "select; case; ret", api.OK},
	} {
		c := codeOf("ret")
		c.Ops = append(slices.Repeat([]api.Op{{Do: api.OpNum}}, x.many), orders(x.last)...)
		holdCheck(t, x.last, c, x.want)
	}
	// All of a select's cases.
	c := codeOf("ret")
	c.Ops = slices.Repeat([]api.Op{{Do: api.OpNum}}, api.MaxNodes)
	c.Ops = append(c.Ops, api.Op{Do: api.OpSelect, A: api.MaxNodes})
	c.Ops = append(c.Ops, slices.Repeat([]api.Op{{Do: api.OpCase, B: 2 * api.MaxNodes}}, api.MaxNodes)...)
	holdCheck(t, "cases", c, api.ErrForm)
	c.Ops = append(c.Ops, api.Op{Do: api.OpRet})
	for i := range c.Ops {
		if c.Ops[i].Do == api.OpCase {
			c.Ops[i].B = len(c.Ops) - 1
		}
	}
	holdCheck(t, "cases", c, api.OK)
	c.Ops = c.Ops[1:]
	for i := range c.Ops {
		if c.Ops[i].Do == api.OpCase {
			c.Ops[i].B = len(c.Ops) - 1
		}
	}
	holdCheck(t, "one value too few", c, api.ErrForm)
}

// TestCheckFrom: Q2: each function is gone through by itself, with its own slots; orders may be shared.
func TestCheckFrom(t *testing.T) {
	for _, x := range []struct {
		what string
		code api.Code
		want api.Errno
	}{
		{"each with no value", codeOf("num; num; ret", api.Fn{}, api.Fn{From: 1}), api.OK},
		{"a case first", codeOf("select 1; else 0 2; num; ret", api.Fn{}, api.Fn{From: 1}), api.ErrForm},
		{"no value", codeOf("num; ret", api.Fn{}, api.Fn{From: 1}), api.ErrForm},
		{"behind the last", codeOf("jump 0; num", api.Fn{}, api.Fn{From: 1}), api.ErrForm},
		{"its own slots", codeOf("load 1; ret", api.Fn{Slots: 2}, api.Fn{Slots: 3}), api.OK},
		{"fewer slots", codeOf("load 1; ret", api.Fn{Slots: 2}, api.Fn{Slots: 1}), api.ErrForm},
		{"fewer slots, elsewhere", codeOf("load 1; ret; num; ret", api.Fn{Slots: 2}, api.Fn{From: 2}), api.OK},
		{"params are slots", codeOf("load 1; ret", api.Fn{Params: 2, Slots: 2}), api.OK},
		{"takes", codeOf("make 1; ret", api.Fn{Slots: 3}, api.Fn{Slots: 3, Takes: []int{2, 0}}), api.OK},
		{"takes, also of who makes itself", codeOf("make 1; ret", api.Fn{Slots: 3}, api.Fn{Slots: 2, Takes: []int{2, 0}}), api.ErrForm},
		{"takes too high", codeOf("make 1; ret; num; ret", api.Fn{Slots: 2}, api.Fn{Slots: 3, From: 2, Takes: []int{2, 0}}), api.ErrForm},
		{"takes, the last too high", codeOf("make 1; ret; num; ret", api.Fn{Slots: 2}, api.Fn{Slots: 3, From: 2, Takes: []int{1, 2}}), api.ErrForm},
		{"takes, without slots", codeOf("make 1; ret; num; ret", api.Fn{}, api.Fn{Slots: 3, From: 2, Takes: []int{0}}), api.ErrForm},
		{"takes nothing, without slots", codeOf("make 1; ret; num; ret", api.Fn{}, api.Fn{Slots: 3, From: 2}), api.OK},
		{"takes, nobody makes it", codeOf("num; ret", api.Fn{}, api.Fn{Slots: 1, Takes: []int{1200}}), api.OK},
		{"takes, it is bound", codeOf("num; bind 1; ret", api.Fn{}, api.Fn{Slots: 1, Takes: []int{1200}}), api.OK},
		// From one function with no value, from the other one with one: neither comes with both.
		{"shared", codeOf("num; jump 2; num; num; drop; ret", api.Fn{}, api.Fn{From: 2}), api.OK},
	} {
		holdCheck(t, x.what, x.code, x.want)
	}
	// All functions over all orders.
	c := codeOf("ret")
	c.Ops = append(slices.Repeat(orders("num; drop"), api.MaxCode/2-1), orders("num; ret")...)
	c.Fns = slices.Repeat([]api.Fn{{}}, api.MaxNodes)
	holdCheck(t, "many", c, api.OK)
	c.Fns[api.MaxNodes-1].From = 1
	holdCheck(t, "many", c, api.ErrForm)
	// Many selects that have no cases.
	c.Ops = slices.Repeat([]api.Op{{Do: api.OpSelect, A: api.MaxNodes}}, api.MaxCode)
	holdCheck(t, "many", c, api.ErrForm)
}
