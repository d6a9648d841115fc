package vm

import (
	"slices"
	"strconv"
	"strings"
	"testing"

	"ravel/api"
)

// written is code that was written as a text.
type written struct {
	api.Code
	labels map[string]int // of each name the order where it stands
}

// write reads code from a text: orders with their numbers, of which those that are left out are 0. Ahead of an order names may stand, each with a colon, which other orders name. `func`, a name, how many params and slots, and what it takes, begins a function; `kind` tells the number of fields, and methods' functions. Main has ten slots.
func write(text string) written {
	w := written{labels: map[string]int{}}
	numbers := map[string]int{"main": 0}
	w.Fns = []api.Fn{{Slots: 10}}
	var parts [][]string
	for part := range strings.SplitSeq(text, ";") {
		fields := strings.Fields(part)
		for len(fields) > 0 && strings.HasSuffix(fields[0], ":") {
			w.labels[strings.TrimSuffix(fields[0], ":")] = len(parts)
			fields = fields[1:]
		}
		if len(fields) == 0 {
			continue
		}
		switch fields[0] {
		case "func":
			numbers[fields[1]] = len(w.Fns)
			all := list(fields[2:], nil)
			w.Fns = append(w.Fns, api.Fn{Params: all[0], Slots: all[1], Takes: all[2:], From: len(parts)})
		case "kind":
			w.Kinds = append(w.Kinds, list(fields[1:], numbers))
		default:
			parts = append(parts, fields)
		}
	}
	for _, fields := range parts {
		names := w.labels
		if fields[0] == "make" || fields[0] == "bind" {
			names = numbers
		}
		all := append(list(fields[1:], names), 0, 0)
		w.Ops = append(w.Ops, api.Op{Do: slices.Index(words(), fields[0]) + 1, A: all[0], B: all[1]})
	}
	return w
}

// words answers how tests call what orders do, from OpNum on.
func words() []string {
	return strings.Fields("num load store var make new chan get put bind find is not neg two jump unless short call ret drop panic send recv close print go select case else")
}

// list answers numbers, some of which have names.
func list(texts []string, names map[string]int) []int {
	var out []int
	for _, text := range texts {
		number, is := names[text]
		if !is {
			number, _ = strconv.Atoi(text)
		}
		out = append(out, number)
	}
	return out
}

// place answers how tests call an order: by its name, the last one of several, or else by its number.
func (w written) place(at int) string {
	if at == -1 {
		return ""
	}
	best := ""
	for name, order := range w.labels {
		if order == at {
			best = max(best, name)
		}
	}
	if best == "" {
		return "@" + strconv.Itoa(at)
	}
	return "@" + best
}

// tell tells a trace by a text: of each event the thread, the kind, the order, the number; how it ended, and where. What is at no order tells none, ends and closes no number, where it is 0.
func (w written) tell(trace api.Trace) string {
	kinds := strings.Fields("print send recv close go end")
	var parts []string
	for _, e := range trace.Events {
		part := strconv.Itoa(e.Thread) + " " + kinds[e.Kind-1] + w.place(e.Node)
		if e.Num != 0 || e.Kind != api.EvEnd && e.Kind != api.EvClose {
			part += " " + strconv.Itoa(e.Num)
		}
		parts = append(parts, part)
	}
	parts = append(parts, strings.Fields("done fell stuck out")[trace.Status]+w.place(trace.At))
	return strings.Join(parts, "; ")
}

// hold runs what is written, and holds what comes against what is wanted.
func hold(t *testing.T, text string, script []int, want string) {
	t.Helper()
	w := write(text)
	trace, wrong := Run(w.Code, script)
	if wrong != api.OK {
		t.Errorf("%s: %d", text, wrong)
		return
	}
	if got := w.tell(trace); got != want {
		t.Errorf("%s by %v:\n%s, not\n%s", text, script, got, want)
	}
}

// back ends a function.
const back = "; num; ret; "

// holdPrints runs orders of main, and holds what they print.
func holdPrints(t *testing.T, text string, want ...int) {
	t.Helper()
	trace, wrong := Run(write(text).Code, nil)
	var got []int
	for _, e := range trace.Events {
		if e.Kind == api.EvPrint {
			got = append(got, e.Num)
		}
	}
	if wrong != api.OK || trace.Status != api.Done || trace.At != -1 || !slices.Equal(got, want) {
		t.Errorf("%s: %d, %d at %d, prints %v, not %v", text, wrong, trace.Status, trace.At, got, want)
	}
}

// holdFalls runs orders of main, and holds that the run falls at the one with the name x, behind nothing.
func holdFalls(t *testing.T, text string) {
	t.Helper()
	hold(t, text, nil, "fell@x")
}

// TestRefused: R1: Check's error, and nothing beside it.
func TestRefused(t *testing.T) {
	for _, x := range []struct {
		code api.Code
		want api.Errno
	}{
		{api.Code{}, api.ErrSize},
		{api.Code{Ops: write("num; ret").Ops}, api.ErrSize},
		{api.Code{Ops: make([]api.Op, api.MaxCode+1), Fns: []api.Fn{{}}}, api.ErrSize},
		{api.Code{Fns: []api.Fn{{}}}, api.ErrRange},
		{write("num; ret; num 0 1").Code, api.ErrRange},
		{write("num; new; ret").Code, api.ErrRange},
		{write("num; print").Code, api.ErrForm},
		{write("num; num; print; print; jump 0; drop; ret; func f 0 0; drop; ret").Code, api.ErrForm},
		// Also if function 0 asks for values.
		{api.Code{Ops: write("drop").Ops, Fns: []api.Fn{{Params: 1, Slots: 1}}}, api.ErrForm},
		{api.Code{Ops: write("num; ret").Ops, Fns: []api.Fn{{Params: 1}}}, api.ErrRange},
	} {
		trace, wrong := Run(x.code, []int{1})
		if wrong != x.want || len(trace.Events) > 0 || trace.Status != 0 || trace.At != 0 {
			t.Errorf("%v: %v, %d, not %d", x.code, trace, wrong, x.want)
		}
	}
}

// TestFirst: R1: function 0 is called without values; if it asks for some, the run falls at -1, ahead of all.
func TestFirst(t *testing.T) {
	hold(t, "num 5; p: print; num; ret", nil, "0 print@p 5; 0 end; done")
	w := write("num 5; print; num; ret")
	for _, params := range []int{1, 2, 10} {
		w.Fns[0].Params = params
		trace, wrong := Run(w.Code, nil)
		if wrong != api.OK || len(trace.Events) > 0 || trace.Status != api.Fell || trace.At != -1 {
			t.Error(params, trace, wrong)
		}
	}
	// It begins where it says, with new variables, whatever it would take.
	w = write("num 5; ret; load 1; print; num; ret")
	w.Fns[0] = api.Fn{Slots: 2, From: 2, Takes: []int{7, 9}}
	if trace, wrong := Run(w.Code, nil); wrong != api.OK || w.tell(trace) != "0 print@3 0; 0 end; done" {
		t.Error(trace, wrong)
	}
	// What comes back from it is nobody's.
	hold(t, "new; ret; kind 1", nil, "0 end; done")
}

// TestValues: R1, Q1: what orders take and put.
func TestValues(t *testing.T) {
	const two = "num 7; num -2; "
	for _, x := range []struct {
		orders string
		want   []int
	}{
		{"num 9223372036854775807; print; num -9223372036854775808; print; num; print", []int{9223372036854775807, -9223372036854775808, 0}},
		{"num 3; store 2; load 2; print; load 2; print; load 1; print", []int{3, 3, 0}},
		{"num 3; var 2; load 2; print; num 4; store 2; load 2; print", []int{3, 4}},
		{"num 1; not; print; num 0; not; print; num 5; not; print; num -9223372036854775808; not; print", []int{0, 1, -4, -9223372036854775807}},
		{"num 1; neg; print; num -9223372036854775808; neg; print", []int{-1, -9223372036854775808}},
		{two + "two 0; print;" + two + "two 1; print;" + two + "two 2; print;" + two + "two 3; print;" + two + "two 4; print", []int{5, 9, -14, -3, 1}},
		{two + "two 5; print;" + two + "two 6; print;" + two + "two 7; print;" + two + "two 8; print;" + two + "two 9; print;" + two + "two 10; print", []int{0, 0, 1, 1, 0, 1}},
		{"num 2; num 2; two 5; print; num 2; num 2; two 6; print; num 2; num 2; two 7; print; num 2; num 2; two 8; print; num 2; num 2; two 9; print; num 2; num 2; two 10; print", []int{0, 1, 0, 1, 1, 0}},
		{"num 9223372036854775807; num 1; two 0; print; num -9223372036854775808; num -1; two 3; print; num -9223372036854775808; num -1; two 4; print", []int{-9223372036854775808, -9223372036854775808, 0}},
		{"num 1; num 2; num 3; drop; print; print", []int{2, 1}},
		{"jump a; b: num 2; print; jump c; a: num 1; print; jump b; c: num 3; print", []int{1, 2, 3}},
		{"num 0; unless a; num 1; print; a: num 2; print", []int{2}},
		{"num -1; unless a; num 1; print; a: num 2; print", []int{1, 2}},
		// If the last value is B, it stays.
		{"num 0; short a 0; num 5; a: print; num 1; short b 0; num 5; b: print", []int{0, 5}},
		{"num 1; short a 1; num 5; a: print; num 0; short b 1; num 5; b: print", []int{1, 5}},
		{"num 2; short a 1; num 5; a: print; num -1; short b 0; num 6; b: print", []int{5, 6}},
		{"num 9; num 1; short a 0; num 5; a: print; print; num 8; num 0; short b 0; num 5; b: print; print", []int{5, 9, 0, 8}},
	} {
		holdPrints(t, x.orders+back, x.want...)
	}
}

// TestThings: R1: `==` is true of the same number or thing; where a number is asked, a thing is 0.
func TestThings(t *testing.T) {
	const end = back + "kind 2; kind 0; func f 0 0; num; ret"
	for _, make := range []string{"new 0", "new 1", "chan 0", "chan 1", "make f", "num 1; bind f"} {
		put := make + "; var 0; "
		for _, x := range []struct {
			orders string
			want   []int
		}{
			// The same, another one that is alike, a number.
			{"load 0; load 0; two 9; print; load 0; load 0; two 10; print", []int{1, 0}},
			{"load 0;" + make + "; two 9; print; load 0; " + make + "; two 10; print", []int{0, 1}},
			{"load 0; num 0; two 9; print; num 0; load 0; two 9; print; load 0; num 0; two 10; print; num 1; load 0; two 9; print", []int{0, 0, 1, 0}},
			{"load 0; print; load 0; not; print; load 0; neg; print", []int{0, 1, 0}},
			{"num 5; load 0; two 0; print; load 0; num 5; two 1; print; load 0; load 0; two 2; print; load 0; num 5; two 3; print", []int{5, -5, 0, 0}},
			{"load 0; num 1; two 5; print; load 0; num 0; two 6; print; load 0; num 0; two 7; print; num 0; load 0; two 8; print", []int{1, 1, 0, 1}},
			{"load 0; unless a; num 1; print; a: num 2; print", []int{2}},
			// Of 0 it is the thing that stays.
			{"load 0; short a 0; num 5; a: load 0; two 9; print; load 0; short b 1; num 6; b: print", []int{1, 6}},
			// It is the same one, wherever it comes from.
			{"new 0; var 1; load 1; load 0; put 1; load 1; get 1; load 0; two 9; print", []int{1}},
			{"chan 1; var 1; load 1; load 0; send; load 1; recv; load 0; two 9; print", []int{1}},
			{"make g; load 0; call 1; load 0; two 9; print; jump a; func g 1 1; load 0; ret; a: num 3; print", []int{1, 3}},
		} {
			holdPrints(t, put+x.orders+end, x.want...)
		}
		holdFalls(t, put+"num 1; load 0; x: two 3; print"+end)
		holdFalls(t, put+"num 1; load 0; x: two 4; print"+end)
	}
}

// TestFields: R2, Q1: things of kinds have fields, first 0, and methods.
func TestFields(t *testing.T) {
	const end = back + "func m 1 1; load 0; get 2; ret; func k 2 2; load 0; load 1; put 2; load 0; ret; kind 3 m k -1; kind 0 -1 m; kind 1"
	for _, x := range []struct {
		orders string
		want   []int
	}{
		{"new 0; var 0; load 0; get 0; print; load 0; num 4; put 0; load 0; num 5; put 2; load 0; get 0; print; load 0; get 1; print; load 0; get 2; print", []int{0, 4, 0, 5}},
		{"new 0; var 0; new 0; var 1; load 0; num 4; put 0; load 1; get 0; print; load 0; num 0; put 0; load 0; get 0; print", []int{0, 0}},
		{"new 0; is 0; get 0; print; new 1; is 1; new 1; two 10; print", []int{0, 1}},
		{"new 0; var 0; load 0; num 4; put 2; load 0; find 0; call; print; load 0; find 1; num 6; call 1; load 0; two 9; print; load 0; get 2; print", []int{4, 1, 6}},
		// What is found keeps its thing, whatever the variable has then.
		{"new 0; var 0; load 0; num 4; put 2; load 0; find 0; var 1; new 0; store 0; load 1; call; print; load 0; find 0; call; print", []int{4, 0}},
		{"new 0; var 0; load 0; num 4; put 2; load 0; bind m; call; print", []int{4}},
	} {
		holdPrints(t, x.orders+end, x.want...)
	}
	// A method can be function 0, which has one value then, and asks for none.
	holdFalls(t, "new 3; find 0; x: call; print"+end+"; kind 0 main")
	for _, orders := range []string{
		"num 1; x: get 0; print", "num 0; x: get 0; print", "chan 1; x: get 0; print", "make m; x: get 0; print",
		"new 0; x: get 3; print", "new 1; x: get 0; print", "new 2; x: get 1; print", "new 0; x: get 1200; print",
		"num 1; num 2; x: put 0", "num 0; new 0; x: put 0", "chan; num 2; x: put 0", "make m; num 2; x: put 0",
		"new 0; num 1; x: put 3", "new 1; num 1; x: put 0", "new 0; num 1; x: put 1200",
		"num 1; x: find 0; call; print", "num 0; x: find 0; call; print", "chan; x: find 0; call; print", "make m; x: find 0; call; print",
		"new 0; x: find 2; call; print", "new 0; x: find 3; call; print", "new 1; x: find 0; call; print", "new 2; x: find 0; call; print", "new 1; x: find 2; call; print", "new 0; x: find 1200; call; print",
		"num 0; x: is 0; print", "num 1; x: is 0; print", "chan; x: is 0; print", "make m; x: is 0; print", "new 1; x: is 0; print", "new 0; x: is 1; print", "new 0; x: is 2; print",
		"num 1; num 0; x: two 3; print", "num 1; num 0; x: two 4; print", "num 0; num 0; x: two 3; print", "num -9223372036854775808; num 0; x: two 4; print",
		"num 1; x: panic", "new 0; x: panic",
	} {
		holdFalls(t, orders+end)
	}
}
