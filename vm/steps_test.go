package vm

import (
	"slices"
	"strconv"
	"strings"
	"testing"

	"ravel/api"
	"ravel/code"
	"ravel/run"
)

// waste answers orders that are just so many steps, at least four. They use slot 1.
func waste(steps int) string {
	rounds, left := (steps-4)/7, (steps-4)%7
	text := "num " + strconv.Itoa(rounds) + "; store 1; again: load 1; unless on; load 1; num 1; two 1; store 1; jump again; on: "
	for i := range left {
		name := "on" + strconv.Itoa(i)
		text += "jump " + name + "; " + name + ": "
	}
	return text
}

// holdMany holds how often something is printed, how the run ends, and where.
func holdMany(t *testing.T, text string, many int, end string) {
	t.Helper()
	w := write(text)
	trace, wrong := Run(w.Code, nil)
	got := 0
	for _, e := range trace.Events {
		if e.Kind == api.EvPrint {
			got++
		}
	}
	how := w.tell(api.Trace{Status: trace.Status, At: trace.At})
	if wrong != api.OK || got != many || how != end {
		t.Errorf("%s: %d, %d, %s, not %d, %s", text, wrong, got, how, many, end)
	}
}

// TestSteps: R3: each order that is done counts one step; ahead of more than MaxOps the run ends, at the one that is not done.
func TestSteps(t *testing.T) {
	const most = api.MaxOps
	for _, x := range []struct {
		ahead, many int
		end         string
	}{{0, most / 3, "out@a"}, {1, most / 3, "out@c"}, {2, most/3 - 1, "out@b"}, {3, most/3 - 1, "out@a"}, {600, most/3 - 200, "out@a"}} {
		holdMany(t, strings.Repeat("num; ", x.ahead)+"a: num 1; b: print; c: jump a", x.many, x.end)
	}
	holdMany(t, "a: make f; call; b: print; jump a; func f 0 0; num 1; ret", most/6, "out@a")
	for _, x := range []struct {
		text string
		many int
		end  string
	}{
		// The last one that may be done falls; one more is not looked at.
		{waste(most-2) + "num; x: panic", 0, "fell@x"},
		{waste(most-1) + "num; x: panic", 0, "out@x"},
		{waste(most-2) + "num; x: get; ret", 0, "fell@x"},
		{waste(most-1) + "num; x: get; ret", 0, "out@x"},
		{waste(most-2) + "num; x: call; ret", 0, "fell@x"},
		{waste(most-1) + "num; x: go; num; ret", 0, "out@x"},
		// A mark that may be come to is done.
		{waste(most-2) + "num; x: print; y: num; ret", 1, "out@y"},
		{waste(most-1) + "num; x: print; y: num; ret", 0, "out@x"},
		{waste(most-2) + "num; x: close; num; ret", 0, "fell@x"},
		{waste(most-1) + "num; x: close; num; ret", 0, "out@x"},
		{waste(most-2) + "chan; x: recv; ret", 0, "stuck"},
		{waste(most-1) + "chan; x: recv; ret", 0, "out@x"},
		{waste(most-1) + "x: select; num", 0, "stuck"},
		{waste(most) + "x: select; num", 0, "out@x"},
		// A thread's end is no order.
		{waste(most-2) + "num; x: ret", 0, "done"},
		{waste(most-1) + "num; x: ret", 0, "out@x"},
		{waste(most) + "x: num; ret", 0, "out@x"},
		// Cases, and what is else, count none; who selects counts one.
		{"a: select 1; else 0 b; b: num; print; jump a", most / 4, "out@a"},
		{"chan 1; var 0; a: load 0; num 5; select 1; case 1 b; b: load 0; recv; print; jump a", (most - 2) / 7, "out@b"},
		{"chan; store 0; load 0; close; a: load 0; select 2; else 0 c; case 0 b; b: print; c: jump a", (most - 4) / 4, "out@a"},
	} {
		holdMany(t, x.text, x.many, x.end)
	}
}

// TestStepsOfThreads: R3: all threads count together; a mark is counted when it is come to, though it is never done.
func TestStepsOfThreads(t *testing.T) {
	const most = api.MaxOps
	// Four orders of main, two behind what is wasted.
	const first, second = "make f; go; chan; recv; ret; func f 0 2; ", "num; x: ret"
	holdMany(t, first+waste(most-6)+second, 0, "stuck")
	holdMany(t, first+waste(most-5)+second, 0, "out@x")
	// When all are counted, a mark that was come to is done nevertheless.
	holdMany(t, "make f; go; num; print; y: chan; recv; ret; func f 0 2; "+waste(most-6)+second, 1, "out@y")
	holdMany(t, "make f; go; num; print; y: chan; recv; ret; func f 0 2; "+waste(most-5)+second, 0, "out@x")
	// Six up to the first print of main, and to that of the other one, which is never done; then three a print.
	holdMany(t, "make f; go; a: num; print; y: jump a; func f 0 0; c: num; print; jump c", (most-6)/3+1, "out@y")
}

// TestAsPrograms: R4: the code of a program runs as the program does: the same events, but for nodes, and the same end, but for At.
func TestAsPrograms(t *testing.T) {
	for _, text := range []string{
		"func main(){print(1+2*3)}",
		"func main(){c:=make(chan int);go func(){c<-1}();go func(){c<-2}();print(<-c)}",
		"func main(){c:=make(chan int);c<-1}",
		"func main(){x:=0;go func(){x=1}();x=2;print(x)}",
		"type A struct {};type B struct {a *A};func main(){b:=new(B);print(b.a==nil);print(b==nil)}",
		"func down(n int)int{if n==0{return 0};return down(n-1)+1};func main(){print(down(39));print(down(40))}",
		"func main(){i:=0;for i<12{go func(){print(i)}();i=i+1}}",
		"func main(){panic(1)}", "func main(){print(1/0)}", "func main(){select{}}",
		"type I interface{m()int};type A struct{n int};type B struct{};func(a *A)m()int{return a.n};func(b *B)m()int{return 2};func f(i I)int{return i.m()};func main(){a:=new(A);a.n=5;print(f(a)+f(new(B)));print(f(nil))}",
		"func main(){c:=make(chan int,2);d:=make(chan bool);go func(){i:=0;for i<3{select{case c<-i:print(i);case <-d:break};i=i+1};close(c)}();print(<-c);print(<-c);print(<-c);print(<-c);d<-true}",
	} {
		made, fault := code.Make(text)
		if fault.Code != api.OK {
			t.Fatal(text, fault)
		}
		for _, script := range [][]int{nil, {1}, {1, 1, 1, 1, 1, 1, 1}, {2, 1, 0, 1}, {-1, 2, -3, 4, -5}} {
			want, _ := run.Run(text, script)
			got, wrong := Run(made, script)
			same := slices.EqualFunc(got.Events, want.Events, func(a, b api.Event) bool {
				a.Node, b.Node = 0, 0
				return a == b
			})
			if wrong != api.OK || got.Status != want.Status || !same {
				t.Errorf("%s by %v:\n%v, %d, not\n%v", text, script, got, wrong, want)
			}
		}
	}
}
