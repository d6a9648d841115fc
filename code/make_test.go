package code

import (
	"slices"
	"strconv"
	"strings"
	"testing"

	"ravel/api"
	"ravel/check"
)

// words answers how tests call what orders do, from OpNum on.
func words() []string {
	return strings.Fields("num load store var make new chan get put bind find is not neg two jump unless short call ret drop panic send recv close print go select case else")
}

func tellNumbers(numbers ...int) string {
	var parts []string
	for _, number := range numbers {
		parts = append(parts, strconv.Itoa(number))
	}
	return strings.Join(parts, " ")
}

// orders answers the orders of a text: of each what it does, and its numbers; those that are left out are 0.
func orders(text string) []api.Op {
	var out []api.Op
	for part := range strings.SplitSeq(text, ";") {
		fields := append(strings.Fields(part), "0", "0")
		a, _ := strconv.Atoi(fields[1])
		b, _ := strconv.Atoi(fields[2])
		out = append(out, api.Op{Do: slices.Index(words(), fields[0]) + 1, A: a, B: b})
	}
	return out
}

// holdOps holds orders against those of a text.
func holdOps(t *testing.T, of string, got []api.Op, want string) {
	t.Helper()
	if !slices.Equal(got, orders(want)) {
		t.Errorf("%s:\n%v, not\n%v", of, got, orders(want))
	}
}

// tellFns tells functions by a text: of each Params, Slots, and, behind a slash, Takes.
func tellFns(fns []api.Fn) string {
	var parts []string
	for _, fn := range fns {
		part := tellNumbers(fn.Params, fn.Slots)
		if len(fn.Takes) > 0 {
			part += "/" + tellNumbers(fn.Takes...)
		}
		parts = append(parts, part)
	}
	return strings.Join(parts, "; ")
}

// makeRight answers the code of a program that may be, of which Check has to say nothing.
func makeRight(t *testing.T, text string) api.Code {
	t.Helper()
	c, fault := Make(text)
	if fault != (api.Fault{}) {
		t.Fatalf("%q: %v", text, fault)
	}
	if wrong := Check(c); wrong != api.OK {
		t.Fatalf("%q: %d of %v", text, wrong, c)
	}
	return c
}

// mainOps answers the orders of main: those of all other functions stand behind them.
func mainOps(c api.Code) []api.Op {
	if len(c.Fns) > 1 {
		return c.Ops[:c.Fns[1].From]
	}
	return c.Ops
}

// head has functions 1 to 5, so that literals of main are functions from 6 on; two kinds; the methods k, which is 0, and m, 1.
const head = `type A struct{n int;b *B;f func(int)int};type B struct{};type I interface{k(n int);m()int};type J interface{m()int}
func(a *A)m()int{};func(a *A)k(n int){};func(b *B)o(){};func(b *B)m()int{};func g(n int,b bool)int{};`

// TestMakeParts: Q3: what each part of a program becomes.
func TestMakeParts(t *testing.T) {
	for _, x := range []struct{ stmts, want string }{
		{"x:=12;print(x);x=3", "num 12; var 0; load 0; print; num 3; store 0"},
		{"x:=true;y:=false;print(!x);print(y)", "num 1; var 0; num 0; var 1; load 0; not; print; load 1; print"},
		{"print(-1);print(1+2);print(2-3*4);print(5/6%7)", "num 1; neg; print; num 1; num 2; two; print; num 2; num 3; num 4; two 2; two 1; print; num 5; num 6; two 3; num 7; two 4; print"},
		{"print(1<2);print(1<=2);print(1>2)", "num 1; num 2; two 5; print; num 1; num 2; two 6; print; num 1; num 2; two 7; print"},
		{"print(1>=2);print(1==2);print(1!=2)", "num 1; num 2; two 8; print; num 1; num 2; two 9; print; num 1; num 2; two 10; print"},
		{"print(true&&false);print(true||false)", "num 1; short 3; num 0; print; num 1; short 7 1; num 0; print"},
		{"a:=new(A);b:=new(B);a=nil;a.b=b;print(a.n)", "new; var 0; new 1; var 1; num 0; store 0; load 0; load 1; put 1; load 0; get; print"},
		{"c:=make(chan int);d:=make(chan *A,8);c<-1;d<-nil;<-c;close(d)", "chan; var 0; chan 8; var 1; load 0; num 1; send; load 1; num 0; send; load 0; recv; drop; load 1; close"},
		{"a:=new(A);a.m();a.k(2);f:=a.m;print(f())", "new; var 0; load 0; bind 1; call; drop; load 0; bind 2; num 2; call 1; drop; load 0; bind 1; var 1; load 1; call; print"},
		{"print(g(1,true));h:=g;go g(2,false);main()", "make 5; num 1; num 1; call 2; print; make 5; var 0; make 5; num 2; num 0; go 2; make; call; drop"},
		{"i:=func()I{}();i.k(1);j:=func()J{}();j.m();a:=i.(*A)", "make 6; call; var 0; load 0; find; num 1; call 1; drop; make 7; call; var 1; load 1; find 1; call; drop; load 0; is; var 2"},
		{"j:=func()J{}();b:=j.(*B);go j.m();print(j==b);print(b==nil)", "make 6; call; var 0; load 0; is 1; var 1; load 0; find 1; go; load 0; load 1; two 9; print; load 1; num 0; two 9; print"},
		{"if true{print(1)};print(2)", "num 1; unless 4; num 1; print; num 2; print"},
		{"if true{print(1)}else{print(2)};print(3)", "num 1; unless 5; num 1; print; jump 7; num 2; print; num 3; print"},
		{"if true{print(1)}else if false{}else{print(2)}", "num 1; unless 5; num 1; print; jump 10; num 0; unless 8; jump 10; num 2; print"},
		{"x:=0;for x<2{x=x+1}", "num 0; var 0; load 0; num 2; two 5; unless 11; load 0; num 1; two; store 0; jump 2"},
		{"for true{for false{break};if true{break}};print(1)", "num 1; unless 10; num 0; unless 6; jump 6; jump 2; num 1; unless 9; jump 10; jump; num 1; print"},
		{"return;print(1)", "num 0; ret; num 1; print"},
		{"panic(3)", "num 3; panic"},
		{"select{};print(1)", "select; num 1; print"},
		{"c:=make(chan int);select{case c<-5:print(1);default:print(2);case <-c:case x:=<-c:print(x)};print(4)",
			"chan; var 0; load 0; num 5; load 0; load 0; select 4; case 1 11; else 0 14; case 0 17; case 0 19; num 1; print; jump 23; num 2; print; jump 23; drop; jump 23; var 1; load 1; print; jump 23; num 4; print"},
	} {
		c := makeRight(t, head+"func main(){"+x.stmts+"}")
		holdOps(t, x.stmts, mainOps(c), x.want+"; num 0; ret")
	}
}

// TestMakeNil: Q3: what is nil falls ahead of the values, so it is looked at there; but not what is never nil, nor where there is no value.
func TestMakeNil(t *testing.T) {
	asked := func(ops []api.Op) int {
		many := 0
		for _, op := range ops {
			if op.Do == api.OpPanic {
				many++
			}
		}
		return many
	}
	c := makeRight(t, "func main(){f:=func(n int){};f(1);go f(2)}")
	want := "make 1; var 0; load 0; store 1; load 1; load 1; num 0; two 9; unless 10; panic; num 1; call 1; drop; load 0; store 1; load 1; load 1; num 0; two 9; unless 21; panic; num 2; go 1; num 0; ret"
	holdOps(t, "f", mainOps(c), want)
	if got := tellFns(c.Fns); got != "0 2; 1 1" {
		t.Error(got)
	}
	for _, x := range []struct {
		stmts string
		want  int
	}{
		{"a:=new(A);a.f(1)", 1},
		{"a:=new(A);a.k(1);a.m();g(1,true);func(n int){}(1);i:=func()I{}();i.k(1);go i.k(2)", 0},
		{"func()func(int)int{}()(1)", 1},
		{"c:=make(chan func(int),1);(<-c)(1)", 1},
		{"f:=func(){};f();go f();a:=new(A);h:=a.m;h()", 0},
		{"f:=g;f(f(1,true),f(2,true)==f(3,false))", 4},
		{"f:=g;h:=func(){f(1,true);go f(2,false)};h()", 0}, // in main
	} {
		c := makeRight(t, head+"func main(){"+x.stmts+"}")
		if got := asked(mainOps(c)); got != x.want {
			t.Errorf("%s: %d, not %d", x.stmts, got, x.want)
		}
	}
}

// TestMakeFunctions: Q3, Q1: main is function 0; of each how many params and slots it has, and which variables a literal takes from who makes it.
func TestMakeFunctions(t *testing.T) {
	for _, x := range []struct{ text, want string }{
		{"func main(){}", "0 0"},
		{"func f(a int,b int){};func main(){};func g(c int){}", "0 0; 2 2; 1 1"},
		{"type A struct{};func(a *A)m(n int,k bool){x:=1};func main(){}", "0 0; 3 4"},
		{"func main(){x:=1;if true{y:=2;x=y}else{y:=3;x=y}}", "0 3"},
		{"func main(){c:=make(chan int);select{case <-c:case x:=<-c:print(x);case c<-1:y:=2;print(y)}}", "0 3"},
		// Literals have their own slots; names of functions are none.
		{"func main(){x:=1;f:=func(n int)int{y:=n;return y};print(f(x));main()}", "0 3; 1 2"},
		{"func main(){x:=1;y:=2;f:=func(n int)int{z:=y;return z+y+n};print(f(x))}", "0 4; 1 3/1"},
		{"func main(){x:=1;y:=2;f:=func(){y=x;x=3};f()}", "0 3; 0 2/1 0"},
		// What is hidden is not taken; what is outside of it is.
		{"func main(){x:=1;f:=func(x int)int{return x};print(f(x));g:=func(){x:=x;print(x)};g()}", "0 4; 1 1; 0 2/0"},
		// Literals between take what is needed further in; nodes that are further in have lower numbers.
		{"func f(p int){q:=2;r:=3;g:=func(s int){h:=func(){print(p+s+r)};h()};g(q)};func main(){}", "0 0; 0 3/1 0 2; 1 4/0 2; 1 5"},
		{"func main(){x:=1;func(){func(){func(){print(x)}()}()}()}", "0 1; 0 1/0; 0 1/0; 0 1/0"},
		{"func main(){c:=make(chan int);select{case x:=<-c:go func(){print(x);c<-x}()}}", "0 2; 0 2/1 0"},
		{"type A struct{};func(a *A)m()func()*A{return func()*A{return a}};func main(){}", "0 0; 0 1/0; 1 1"},
	} {
		c := makeRight(t, x.text)
		if got := tellFns(c.Fns); got != x.want {
			t.Errorf("%s:\n%s, not\n%s", x.text, got, x.want)
		}
	}
	c := makeRight(t, "func f(n int)int{return n};func main(){print(f(2))}")
	holdOps(t, "f", c.Ops, "make 1; num 2; call 1; print; num 0; ret; load 0; ret; num 0; ret")
	if c.Fns[0].From != 0 || c.Fns[1].From != 6 {
		t.Error(c.Fns)
	}
}

// TestMakeKinds: Q3, Q1: of each struct how many fields it has, and what it has for each method that interfaces have.
func TestMakeKinds(t *testing.T) {
	for _, x := range []struct {
		text string
		want []string
	}{
		{"func main(){}", nil},
		{"type A struct{};func main(){};type B struct{a *A;n int}", []string{"0", "2"}},
		{head + "func main(){}", []string{"3 2 1", "0 -1 4"}},
		// A method that no interface has has no number.
		{"type A struct{};func(a *A)m(){};func main(){}", []string{"0"}},
		{"type I interface{};func main(){};type A struct{n int}", []string{"1"}},
		{"type J interface{b();a()};type I interface{a();c()};type A struct{n int};func(x *A)c(){};func main(){};func(x *A)a(){}", []string{"1 -1 2 1"}},
	} {
		c := makeRight(t, x.text)
		var got []string
		for _, kind := range c.Kinds {
			got = append(got, tellNumbers(kind...))
		}
		if !slices.Equal(got, x.want) {
			t.Errorf("%s: %q, not %q", x.text, got, x.want)
		}
	}
}

// TestMakeFaults: Q3: chapter 4's faults first; then there is no code.
func TestMakeFaults(t *testing.T) {
	for _, text := range []string{
		"", "func main(){", "func main(){x:=1;x=true}", "func f(){}", "func main(){y}", "\xff", "func main(){print(1)}\x00", "func main(n int){}",
		strings.Repeat(" ", api.MaxText+1), "func main(){print(nil)}", "type A struct{a int;a int};func main(){}", "func main(){break}",
		"func main(){c:=make(chan int,9)}", strings.Repeat("(", 40), "func main(){" + strings.Repeat("{", 5),
	} {
		_, want := check.Check(text)
		c, fault := Make(text)
		if fault != want || fault.Code == api.OK || c.Ops != nil || c.Fns != nil || c.Kinds != nil {
			t.Errorf("%q: %v, %v, not %v", text, c, fault, want)
		}
	}
}

// fill answers a text with as many parts in the middle as may be.
func fill(t *testing.T, ahead, part, behind string) string {
	t.Helper()
	many := 0
	for {
		text := ahead + strings.Repeat(part, many+1) + behind
		if _, fault := check.Check(text); fault.Code != api.OK {
			if fault.Code != api.ErrSize && fault.Code != api.ErrFull {
				t.Fatalf("%q: %v", text, fault)
			}
			return ahead + strings.Repeat(part, many) + behind
		}
		many++
	}
}

// TestMakeGreat: Q3: also code of the greatest programs is right, of whatever they are made.
func TestMakeGreat(t *testing.T) {
	const back = "type A struct{f func(int)*A};"
	most := 0
	for _, text := range []string{
		// Calls of what can be nil have the most orders.
		fill(t, back+"func main(){a:=new(A);a", ".f(1)", "}"),
		fill(t, "func main(){f:=func(n int){};", "f(1);", "}"),
		fill(t, "func main(){f:=func(n int){};", "go f(1);", "}"),
		fill(t, "func main(){f:=func(n int)int{};print(f(1)", "+f(1)", ")}"),
		fill(t, "func main(){", "func(n int)func(int){}(1)(2);", "}"),
		fill(t, "func main(){", "return;", "}"),
		fill(t, "func main(){", "go func(){}();", "}"),
		fill(t, "func main(){print(1", "+1", ")}"),
		fill(t, "func main(){print(true", "&&true", ")}"),
		fill(t, "func main(){for true{", "break;", "}}"),
		fill(t, "func main(){", "if true{}else{};", "}"),
		fill(t, "func main(){", "for true{};", "}"),
		fill(t, "func main(){", "select{};", "}"),
		fill(t, "func main(){c:=make(chan int);select{", "case <-c:", "}}"),
		fill(t, "func main(){c:=make(chan int);select{", "case c<-1:", "default:}}"),
		fill(t, "func main(){c:=make(chan int);", "select{default:};", "}"),
	} {
		most = max(most, len(makeRight(t, text).Ops))
	}
	if most < 3000 || most > api.MaxCode {
		t.Error("no great ones:", most)
	}
	holdManyNames(t)
}

// holdManyNames holds that programs with many params, values, variables, kinds and methods have code that is right.
func holdManyNames(t *testing.T) {
	t.Helper()
	const many = 170
	var params, types, values, defines, uses, structs, methods []string
	for i := range many {
		name := "v" + strconv.Itoa(i)
		params = append(params, name+" int")
		types = append(types, "int")
		values = append(values, "1")
		defines = append(defines, name+":=1")
		uses = append(uses, name)
		structs = append(structs, "type S"+name+" struct{}")
		methods = append(methods, name+"()")
	}
	list := func(parts []string) string { return strings.Join(parts, ",") }
	makeRight(t, "func main(){f:=func("+list(params)+"){};f("+list(values)+")}")
	makeRight(t, "func g(f func("+list(types)+")){f("+list(values)+")};func main(){}")
	c := makeRight(t, "func main(){"+strings.Join(defines, ";")+";f:=func()int{return func()int{return "+strings.Join(uses, "+")+"}()};print(f())}")
	if len(c.Fns[1].Takes) != many || len(c.Fns[2].Takes) != many {
		t.Error(c.Fns)
	}
	c = makeRight(t, strings.Join(structs, ";")+";type I interface{"+strings.Join(methods, ";")+"};func main(){}")
	if len(c.Kinds) != many || len(c.Kinds[0]) != 1+many {
		t.Error(len(c.Kinds), c.Kinds[0])
	}
}
