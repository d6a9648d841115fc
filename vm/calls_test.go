package vm

import (
	"strconv"
	"strings"
	"testing"

	"ravel/api"
)

// TestSlots: R2: a call's variables are its values, those that the function has with it ahead, then what it took, then new ones.
func TestSlots(t *testing.T) {
	const show = "load 0; print; load 1; print; load 2; print; load 3; print; load 4; print; num 7; ret"
	for _, x := range []struct {
		orders, fn string
		want       []int
	}{
		{"make f; call; print", "0 5", []int{0, 0, 0, 0, 0, 7}},
		{"make f; num 1; num 2; call 2; print", "2 5", []int{1, 2, 0, 0, 0, 7}},
		{"num 5; var 0; num 6; var 1; make f; num 1; num 2; call 2; print", "2 5 1 0", []int{1, 2, 6, 5, 0, 7}},
		{"num 5; var 8; make f; call; print", "0 5 8 0 8", []int{5, 0, 5, 0, 0, 7}},
		{"num 5; var 3; make f; num 1; call 1; print", "1 5 3 3 3 3", []int{1, 5, 5, 5, 5, 7}},
		{"num 1; bind f; num 2; num 3; call 2; print", "3 5", []int{1, 2, 3, 0, 0, 7}},
		{"num 1; bind f; call; print", "1 5", []int{1, 0, 0, 0, 0, 7}},
		// Who is bound, or found, took nothing.
		{"num 5; var 0; num 1; bind f; num 2; call 1; print", "2 5 0 0", []int{1, 2, 0, 0, 0, 7}},
		{"num 5; var 0; new; find; num 2; call 1; print", "2 5 0 0", []int{0, 2, 0, 0, 0, 7}},
	} {
		holdPrints(t, x.orders+back+"func f "+x.fn+"; "+show+"; kind 0 f", x.want...)
	}
	// Each call has its own.
	holdPrints(t, "make f; num 3; call 1; print"+back+"func f 1 2; load 1; print; load 0; store 1; load 0; unless a; make f; load 0; num 1; two 1; call 1; print; a: load 1; ret", 0, 0, 0, 0, 0, 1, 2, 3)
}

// TestTaken: R2: what a function took are the same variables, for all who took them; a new one for a slot is another one.
func TestTaken(t *testing.T) {
	const end = back + "func up 0 1 0; load 0; num 1; two 0; store 0; load 0; ret; func anew 0 1 0; num 50; var 0; load 0; ret; func nest 0 2 0; make up; ret"
	for _, x := range []struct {
		orders string
		want   []int
	}{
		{"num 3; var 0; make up; var 1; load 1; call; print; load 1; call; print; load 0; print", []int{4, 5, 5}},
		{"num 3; var 0; make up; var 1; num 10; store 0; load 1; call; print; make up; call; print; load 0; print", []int{11, 12, 12}},
		{"num 3; var 0; make up; var 1; num 10; var 0; load 1; call; print; load 0; print; make up; call; print; load 1; call; print", []int{4, 10, 11, 5}},
		{"num 3; var 0; make anew; call; print; load 0; print", []int{50, 3}},
		{"num 3; var 0; make nest; call; var 1; load 1; call; print; load 0; print; make nest; call; call; print", []int{4, 4, 5}},
		// Also those that nobody set.
		{"make up; call; print; make up; call; print; load 0; print", []int{1, 2, 2}},
		// A value is not the variable it came from.
		{"num 3; var 0; load 0; var 1; num 4; store 0; load 1; print", []int{3}},
		{"num 3; var 0; load 0; num 4; store 0; print", []int{3}},
	} {
		holdPrints(t, x.orders+end, x.want...)
	}
	// A variable lives on when the call that made it is at its end; threads share it.
	holdPrints(t, "make g; num 5; call 1; var 0; make g; num 8; call 1; var 1; load 0; call; print; load 1; call; print; load 0; call; print"+back+
		"func g 1 1; make up; ret; func up 0 1 0; load 0; num 1; two 0; store 0; load 0; ret", 6, 9, 7)
	hold(t, "num 3; var 0; make set; go; load 0; print; load 0; print"+back+"func set 0 1 0; num 9; store 0; num; ret", nil, "0 go@3 1; 0 print@5 3; 0 print@7 9; 0 end; done")
}

// TestCallFalls: R2: of no function; not with as many values as it asks for, with those that it has with it.
func TestCallFalls(t *testing.T) {
	const end = back + "func none 0 3; num; ret; func one 1 3; num; ret; func two 2 2; num; ret; kind 1 none one two"
	for _, call := range []string{"call", "go"} {
		drop := "; drop"
		if call == "go" {
			drop = ""
		}
		for _, orders := range []string{
			"num 0; x: CALL", "num 1; x: CALL", "new; x: CALL", "chan 1; x: CALL", "num; num; num; x: CALL 2", "num 1; make none; x: CALL 1",
			"make none; num; x: CALL 1", "make one; x: CALL", "make one; num; num; x: CALL 2", "make two; num; x: CALL 1", "make two; x: CALL", "make two; num; num; num; x: CALL 3",
			"num; bind none; x: CALL", "num; bind one; num; x: CALL 1", "num; bind two; x: CALL", "num; bind two; num; num; x: CALL 2",
			"new; find 0; x: CALL", "new; find 1; num; x: CALL 1", "new; find 2; x: CALL",
		} {
			holdFalls(t, strings.ReplaceAll(orders, "CALL", call)+drop+end)
		}
		for _, orders := range []string{"make none; CALL", "make one; num; CALL 1", "make two; num; num; CALL 2", "num; bind one; CALL", "num; bind two; num; CALL 1", "new; find 1; CALL", "new; find 2; num; CALL 1"} {
			holdPrints(t, strings.ReplaceAll(orders, "CALL", call)+drop+"; num 1; print"+end, 1)
		}
	}
	// Of an OpGo ahead of its mark: nobody else can do anything ahead of it, and the threads' number does not matter.
	hold(t, "make f; go; num; x: go"+back+"func f 0 0; num 1; print; num; ret", []int{1, 1, 1}, "0 go@1 1; fell@x")
	hold(t, "make f; num 11; var 0; a: load 0; unless b; make f; go; load 0; num 1; two 1; store 0; jump a; b: num; x: go; ret; func f 0 0; num; ret", []int{}, goes(11, 6)+"fell@x")
}

// goes answers that a thread begins so many others.
func goes(many, at int) string {
	var text strings.Builder
	for number := range many {
		text.WriteString("0 go@" + strconv.Itoa(at) + " " + strconv.Itoa(number+1) + "; ")
	}
	return text.String()
}

// TestDeepCalls: R2: a call that would be within MaxCalls others of its thread falls; a thread's first one is within none.
func TestDeepCalls(t *testing.T) {
	const down = "func down 1 1; load 0; unless a; make down; load 0; num 1; two 1; x: call 1; num 1; two 0; ret; a: num; ret"
	for _, x := range []struct {
		deep  int
		falls bool
	}{{0, false}, {1, false}, {api.MaxCalls - 1, false}, {api.MaxCalls, true}, {api.MaxCalls + 1, true}} {
		// The first one is of main, with the number; each one of down has one less.
		num := "num " + strconv.Itoa(x.deep)
		own, other, twice := "make down; "+num+"; call 1; print"+back+down, "make down; "+num+"; go 1; chan; recv; ret; "+down, "make down; "+num+"; call 1; drop; make down; "+num+"; call 1; print"+back+down
		if x.falls {
			holdFalls(t, own)
		} else {
			holdPrints(t, own, x.deep)
			holdPrints(t, twice, x.deep)
		}
		// There the call of down with the number is the thread's first one.
		if x.deep > api.MaxCalls {
			hold(t, other, nil, "0 go@2 1; fell@x")
		} else {
			hold(t, other, nil, "0 go@2 1; 1 end; stuck")
		}
	}
	// Other threads' calls do not count.
	const both = "make f; num 30; call 1; print; num; ret; func f 1 2; load 0; unless a; make f; load 0; num 1; two 1; call 1; ret; a: make g; num 40; go 1; chan; store 1; num 3; print; num 4; ret; func g 1 1; load 0; unless b; make g; load 0; num 1; two 1; call 1; ret; b: num; ret"
	hold(t, both, []int{1}, "0 go@16 1; 1 end; 0 print@20 3; 0 print@3 4; 0 end; done")
}

// TestThreads: R1, E5: more threads than may be begun: Out, at the order; whether or not the others are at their end.
func TestThreads(t *testing.T) {
	begins := func(many int) string {
		return "a: load 0; num " + strconv.Itoa(many) + "; two 5; unless b; make f; x: go; load 0; num 1; two 0; store 0; jump a; b: num 5; p: print" + back + "func f 0 0; num; ret"
	}
	first := strings.ReplaceAll(goes(api.MaxThreads-1, 5), "@5", "@x")
	hold(t, begins(api.MaxThreads-1), nil, first+"0 print@p 5; 0 end; done")
	hold(t, begins(api.MaxThreads), nil, first+"out@x")
	ended := ""
	for number := 1; number < api.MaxThreads; number++ {
		ended += "0 go@x " + strconv.Itoa(number) + "; " + strconv.Itoa(number) + " end; "
	}
	ones := []int{1, 1, 1, 1, 1, 1, 1, 1, 1, 1, 1, 1}
	hold(t, begins(api.MaxThreads-1), ones, ended+"0 print@p 5; 0 end; done")
	hold(t, begins(api.MaxThreads), ones, ended+"out@x")
}
