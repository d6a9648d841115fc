package vm

import (
	"math"
	"reflect"
	"slices"
	"sync"
	"testing"

	"ravel/api"
)

// two begins two threads that send, and receives once.
const two = "chan; var 0; make f; num 1; a: go 1; make f; num 2; b: go 1; load 0; r: recv; p: print; num; ret; func f 1 2 0; load 1; load 0; s: send; num; ret"

// TestPicks: R1, E6: numbers of the script are taken where there are at least two, modulo how many, from 0 on.
func TestPicks(t *testing.T) {
	const begun = "0 go@a 1; 0 go@b 2; "
	const first = begun + "1 send@s 1; 0 recv@r 1; 0 print@p 1; 0 end; done"
	const second = begun + "2 send@s 2; 0 recv@r 2; 0 print@p 2; 0 end; done"
	for _, x := range []struct {
		number int
		want   string
	}{{0, first}, {1, first}, {2, second}, {3, first}, {5, second}, {-1, second}, {-2, first}, {-4, second}, {math.MaxInt, first}, {math.MinInt, first}, {math.MinInt + 1, second}} {
		hold(t, two, []int{x.number}, x.want)
	}
	hold(t, two, nil, first)
	hold(t, two, []int{}, first)
	hold(t, two, []int{1, 1, 1, 1, 1, 1}, begun+"1 send@s 1; 0 recv@r 1; 1 end; 0 print@p 1; 0 end; done")
	// First the thread, then the case.
	const cases = "make f; go; chan 1; var 0; chan 1; var 1; load 0; num 1; load 1; num 2; load 0; num 3; select 3; a: case 1 d; b: case 1 d; c: case 1 d; d: num; ret; func f 0 0; num 1; p: print; num; ret"
	hold(t, cases, []int{0, 1}, "0 go@1 1; 0 send@b 2; 0 end; done")
	hold(t, cases, []int{0, -1}, "0 go@1 1; 0 send@c 3; 0 end; done")
	hold(t, cases, []int{0, 3, 1}, "0 go@1 1; 0 send@a 1; 1 print@p 1; 0 end; done")
	hold(t, cases, []int{1, 1, 2}, "0 go@1 1; 1 print@p 1; 1 end; 0 send@c 3; 0 end; done")
}

// TestGoOn: R1, E5: who is picked goes on first, then who is met, or begun.
func TestGoOn(t *testing.T) {
	// The last one that sets the variable decides what is printed.
	const meets = "chan; var 1; make f; go; load 1; r: recv; store 0; num 2; store 0; load 1; q: recv; store 2; load 0; p: print; num; ret; func f 0 2 0 1; load 1; num 5; s: send; num 1; store 0; load 1; num 6; u: send; num; ret"
	hold(t, meets, nil, "0 go@3 1; 1 send@s 5; 0 recv@r 5; 1 send@u 6; 0 recv@q 6; 0 print@p 1; 0 end; done")
	hold(t, meets, []int{1}, "0 go@3 1; 1 send@s 5; 0 recv@r 5; 1 send@u 6; 0 recv@q 6; 0 print@p 2; 0 end; done")
	const begins = "chan; var 1; make f; go; num 2; store 0; load 1; recv; drop; load 0; p: print; num; ret; func f 0 2 0 1; num 1; store 0; load 1; num 6; send; num; ret"
	hold(t, begins, nil, "0 go@3 1; 1 send@17 6; 0 recv@7 6; 0 print@p 1; 0 end; done")
	// When the first one ends the run, the second one does not go on.
	const falls = "chan; var 0; make f; go; load 0; r: recv; num 0; x: two 3; ret; func f 0 1 0; load 0; num 5; s: send; num 1; num 0; y: two 4; ret"
	hold(t, falls, nil, "0 go@3 1; 1 send@s 5; 0 recv@r 5; fell@x")
	hold(t, falls, []int{1}, "0 go@3 1; 1 send@s 5; 0 recv@r 5; fell@y")
	hold(t, "make f; go; num; x: panic; func f 0 0; num; y: panic", nil, "0 go@1 1; fell@x")
	hold(t, "make f; go; num 1; print; num; ret; func f 0 0; num; y: panic", nil, "0 go@1 1; fell@y")
	// What a mark takes is taken ahead of it, though it is done later.
	const shared = "num 3; var 0; make f; go; load 0; p: print; load 0; q: print; num; ret; func f 0 1 0; num 9; store 0; num; ret"
	hold(t, shared, nil, "0 go@3 1; 0 print@p 3; 0 print@q 9; 0 end; done")
	hold(t, "chan 1; var 1; num 3; var 0; make f; go; load 1; load 0; send; load 1; recv; p: print; num; ret; func f 0 1 0; num 9; store 0; num; ret", nil, "0 go@5 1; 0 send@8 3; 0 recv@10 3; 0 print@p 3; 0 end; done")
	hold(t, "num 3; var 0; make g; load 0; go 1; num 4; store 0; chan; recv; ret; func g 1 1; load 0; p: print; num; ret", nil, "0 go@4 1; 1 print@p 3; 1 end; stuck")
}

// TestAble: R1, E5: who can send, and who can receive: a channel is what OpChan made, all else is nil.
func TestAble(t *testing.T) {
	const end = back + "func f 0 0; num; ret; kind 1"
	for _, x := range []struct{ orders, want string }{
		{"chan; num 1; send", "stuck"},
		{"chan; recv; drop", "stuck"},
		{"chan 1; recv; drop", "stuck"},
		{"chan 1; var 0; load 0; num 1; a: send; load 0; num 2; send", "0 send@a 1; stuck"},
		{"chan 2; var 0; load 0; num 1; a: send; load 0; num 2; b: send; load 0; c: recv; p: print; load 0; d: recv; q: print", "0 send@a 1; 0 send@b 2; 0 recv@c 1; 0 print@p 1; 0 recv@d 2; 0 print@q 2; 0 end; done"},
		{"chan 8; var 0; a: load 0; load 1; b: send; load 1; num 1; two 0; store 1; jump a; num", "0 send@b 0; 0 send@b 1; 0 send@b 2; 0 send@b 3; 0 send@b 4; 0 send@b 5; 0 send@b 6; 0 send@b 7; stuck"},
		{"num 0; num 1; send", "stuck"}, {"num 1; num 1; send", "stuck"}, {"new; num 1; send", "stuck"}, {"make f; num 1; send", "stuck"},
		{"num 0; recv; drop", "stuck"}, {"num 1; recv; drop", "stuck"}, {"new; recv; drop", "stuck"}, {"make f; recv; drop", "stuck"},
		{"select; num", "stuck"},
		{"select 1; else 0 a; a: num 1; p: print", "0 print@p 1; 0 end; done"},
		{"num; new; num 1; select 2; case 0 a; case 1 b; a: drop; b: num 2; print", "stuck"},
		{"num; new; num 1; select 3; case 0 a; case 1 b; else 0 b; a: drop; b: num 2; p: print", "0 print@p 2; 0 end; done"},
		{"num; new; num 1; select 3; else 0 b; case 0 a; case 1 b; a: drop; b: num 2; p: print", "0 print@p 2; 0 end; done"},
		// A thread does not meet itself, two at the same thing that is no channel do not meet.
		{"chan; var 0; load 0; num 1; load 0; select 2; case 1 b; case 0 a; a: drop; b: num 2; print", "stuck"},
		{"new; var 0; make g; go; load 0; recv; jump h; func g 0 1 0; load 0; num 1; send; num; ret; h: drop", "0 go@3 1; stuck"},
		{"num; var 0; make g; go; load 0; recv; jump h; func g 0 1 0; load 0; num 1; send; num; ret; h: drop", "0 go@3 1; stuck"},
		// What is else is done just if no case can be.
		{"chan 1; num 3; select 2; else 0 a; s: case 1 b; a: num 1; print; b: num 2; p: print", "0 send@s 3; 0 print@p 2; 0 end; done"},
		{"chan 1; select 2; else 0 b; case 0 a; a: drop; b: num 2; p: print", "0 print@p 2; 0 end; done"},
		// Closed ones: what is left, then 0.
		{"chan 1; var 0; load 0; num 4; a: send; load 0; b: close; load 0; c: recv; p: print; load 0; d: recv; q: print; load 0; select 1; e: case 0 r; r: print", "0 send@a 4; 0 close@b; 0 recv@c 4; 0 print@p 4; 0 recv@d 0; 0 print@q 0; 0 recv@e 0; 0 print@r 0; 0 end; done"},
		{"chan; var 0; load 0; b: close; load 0; d: recv; num 0; two 9; q: print", "0 close@b; 0 recv@d 0; 0 print@q 1; 0 end; done"},
		{"chan; var 0; make g; go; load 0; b: close; chan; recv; jump h; func g 0 1 0; load 0; r: recv; p: print; num; ret; h: drop", "0 go@3 1; 0 close@b; 1 recv@r 0; 1 print@p 0; 1 end; stuck"},
		// What falls there has no event.
		{"chan; var 0; load 0; b: close; load 0; num 1; x: send", "0 close@b; fell@x"},
		{"chan 1; var 0; load 0; b: close; load 0; num 1; x: send", "0 close@b; fell@x"},
		{"chan; var 0; load 0; b: close; load 0; num 1; select 1; x: case 1 c; c: num 1; print", "0 close@b; fell@x"},
		{"chan; var 0; load 0; b: close; load 0; x: close", "0 close@b; fell@x"},
		{"num 0; x: close", "fell@x"}, {"num 1; x: close", "fell@x"}, {"new; x: close", "fell@x"}, {"make f; x: close", "fell@x"},
	} {
		hold(t, x.orders+end, nil, x.want)
	}
	// A close that falls is a mark, too: others can do theirs ahead of it.
	const late = "make f; go; num; x: close; num; ret; func f 0 0; num 1; p: print; num; ret"
	hold(t, late, nil, "0 go@1 1; fell@x")
	hold(t, late, []int{1, 1}, "0 go@1 1; 1 print@p 1; 1 end; fell@x")
}

// TestSelect: R1, Q1: what cases take, the last one first; where they go on; their events are at them.
func TestSelect(t *testing.T) {
	// The channels are 5 and 6; behind the select the rest of the stack is as it was.
	const takes = "chan 1; var 5; chan 1; var 6; num 77; load 5; num 1; load 6; load 6; num 3; select 3; a: case 1 g; b: case 0 h; c: case 1 g; g: num 8; h: print; p: print; num; ret"
	hold(t, takes, nil, "0 send@a 1; 0 print@h 8; 0 print@p 77; 0 end; done")
	hold(t, takes, []int{1}, "0 send@c 3; 0 print@h 8; 0 print@p 77; 0 end; done")
	const held = "chan 1; var 5; chan 1; var 6; load 6; num 9; send; num 77; load 5; load 6; num 1; load 6; select 3; a: case 0 h; c: case 1 g; b: case 0 h; g: num 8; h: print; p: print; num; ret"
	hold(t, held, nil, "0 send@6 9; 0 recv@b 9; 0 print@h 9; 0 print@p 77; 0 end; done")
	// The first case that fits is met; who is picked picks its own.
	const met = "chan; var 0; chan; var 1; make f; go; load 0; num 5; s: send; load 1; recv; ret; func f 0 2 0 1; load 1; num 4; load 1; load 0; load 0; select 4; a: case 1 n; b: case 0 y; c: case 0 y; d: case 0 y; y: print; n: num; ret"
	hold(t, met, nil, "0 go@5 1; 0 send@s 5; 1 recv@c 5; 1 print@y 5; 1 end; stuck")
	hold(t, met, []int{1, 1}, "0 go@5 1; 0 send@s 5; 1 recv@d 5; 1 print@y 5; 1 end; stuck")
	// Two selects meet; the least thread is met.
	const both = "chan; var 0; make f; go; make f; go; load 0; num 7; select 1; a: case 1 b; b: num; ret; func f 0 1 0; load 0; select 2; c: case 0 d; else 0 e; d: print; e: num; ret"
	hold(t, both, nil, "0 go@3 1; 0 go@5 2; 0 send@a 7; 1 recv@c 7; 0 end; done")
	hold(t, both, []int{0, 2}, "0 go@3 1; 0 go@5 2; 0 send@a 7; 2 recv@c 7; 0 end; done")
	// A thread that goes on behind an else is met no more.
	const gone = "chan; var 0; make f; go; num 1; p: print; load 0; num 7; send; num; ret; func f 0 1 0; load 0; select 2; c: case 0 d; else 0 e; d: print; e: num; ret"
	hold(t, gone, []int{1, 1, 0}, "0 go@3 1; 1 end; 0 print@p 1; stuck")
}

// TestOrderNought: R1: the order with the number 0 is one as all others.
func TestOrderNought(t *testing.T) {
	for _, x := range []struct{ text, want string }{
		// Nobody comes to it, though threads go on behind marks that are none of its kind.
		{"recv; ret; num 1; num 2; num 3; num 4; a: print; b: print; make f; c: go; d: print; chan; e: close; g: print; num; ret; func f 0 0; num; ret", "0 print@a 4; 0 print@b 3; 0 go@c 1; 0 print@d 2; 0 close@e; 0 print@g 1; 0 end; done"},
		// It is a mark.
		{"a: recv; jump p; chan 1; var 0; load 0; num 4; send; load 0; jump a; p: print; num; ret", "0 send@6 4; 0 recv@a 4; 0 print@p 4; 0 end; done"},
	} {
		w := write(x.text)
		w.Fns[0].From = 2
		trace, wrong := Run(w.Code, nil)
		if got := w.tell(trace); wrong != api.OK || got != x.want {
			t.Errorf("%s: %d, %s, not %s", x.text, wrong, got, x.want)
		}
	}
	hold(t, "select 1; else 0 a; a: num 1; p: print; num; ret", nil, "0 print@p 1; 0 end; done")
}

// TestAnswersHangOnArguments: P3: the same comes each time, also when runs go on beside each other; what was handed in stays, and what came out is nobody's any more.
func TestAnswersHangOnArguments(t *testing.T) {
	w, same := write(two), write(two)
	script := []int{2, 1, 7, 7}
	want, _ := Run(w.Code, script)
	var all sync.WaitGroup
	for range 8 {
		all.Go(func() {
			for range 50 {
				got, _ := Run(w.Code, script)
				if !reflect.DeepEqual(got, want) {
					t.Error(got, want)
				}
				clear(got.Events)
			}
		})
	}
	all.Wait()
	if !reflect.DeepEqual(w, same) || !slices.Equal(script, []int{2, 1, 7, 7}) {
		t.Error(w, script)
	}
	// What lies behind a list's length is not looked at.
	behind := write(two)
	behind.Ops = append(behind.Ops, api.Op{Do: 99})[:len(behind.Ops)]
	behind.Fns = append(behind.Fns, api.Fn{From: -1})[:len(behind.Fns)]
	if got, wrong := Run(behind.Code, append(script, 5)[:1]); wrong != api.OK || w.tell(got) != "0 go@a 1; 0 go@b 2; 2 send@s 2; 0 recv@r 2; 0 print@p 2; 0 end; done" {
		t.Error(got, wrong)
	}
}
