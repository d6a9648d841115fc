package run

import (
	"math"
	"slices"
	"strconv"
	"strings"
	"testing"

	"ravel/api"
	"ravel/check"
	"ravel/syntax"
)

// unmark takes the marks (@ and a digit) out of a text, and answers where they stood.
func unmark(marked string) (string, map[int]string) {
	var text strings.Builder
	places := map[int]string{}
	for i := 0; i < len(marked); i++ {
		if marked[i] == '@' {
			places[text.Len()] = marked[i : i+2]
			i++
			continue
		}
		text.WriteByte(marked[i])
	}
	return text.String(), places
}

func kindText(kind int) string {
	return map[int]string{
		api.KBlock: "KBlock", api.KDo: "KDo", api.KReturn: "KReturn", api.KBreak: "KBreak", api.KSelect: "KSelect", api.KNeg: "KNeg", api.KDefine: "KDefine", api.KSend: "KSend", api.KGo: "KGo", api.KCaseSend: "KCaseSend", api.KCaseRecv: "KCaseRecv",
		api.KClose: "KClose", api.KPanic: "KPanic", api.KPrint: "KPrint", api.KNumber: "KNumber", api.KTruth: "KTruth", api.KName: "KName", api.KDot: "KDot",
		api.KCall: "KCall", api.KAssert: "KAssert", api.KRecv: "KRecv", api.KBinary: "KBinary", api.KIf: "KIf", api.KFor: "KFor", api.KAssign: "KAssign",
	}[kind]
}

// tell tells a trace by a text: of each event the thread, the kind, the mark that stands at its node, the number if there is one; how it ended.
func tell(t *testing.T, text string, places map[int]string, trace api.Trace) string {
	t.Helper()
	nodes, _ := syntax.Parse(text)
	words := [][]string{nil, {"print", "KPrint"}, {"send", "KSend", "KCaseSend"}, {"recv", "KRecv", "KCaseRecv"}, {"close", "KClose"}, {"go", "KGo"}, {"end"}}
	var parts []string
	for _, e := range trace.Events {
		part := strconv.Itoa(e.Thread) + " " + words[e.Kind][0]
		if e.Kind == api.EvEnd {
			if e.Node != -1 {
				t.Errorf("%q: an end is at %d", text, e.Node)
			}
		} else {
			n := nodes[e.Node]
			if !slices.Contains(words[e.Kind][1:], kindText(n.Kind)) {
				t.Errorf("%q: an event of the kind %d is at a node of the kind %d", text, e.Kind, n.Kind)
			}
			part += places[n.At]
		}
		switch e.Kind {
		case api.EvEnd, api.EvClose:
			if e.Num != 0 {
				t.Errorf("%q: %v has a number", text, e)
			}
		default:
			part += " " + strconv.Itoa(e.Num)
		}
		parts = append(parts, part)
	}
	last := []string{"done", "fell", "stuck", "out"}[trace.Status]
	if trace.Status == api.Fell || trace.Status == api.Out {
		last += " " + kindText(nodes[trace.At].Kind) + places[nodes[trace.At].At]
	} else if trace.At != -1 {
		t.Errorf("%q: %s at %d", text, last, trace.At)
	}
	return strings.Join(append(parts, last), "; ")
}

// hold runs a marked text and holds what comes against what is wanted.
func hold(t *testing.T, marked string, script []int, want string) {
	t.Helper()
	text, places := unmark(marked)
	kept := slices.Clone(script)
	trace, fault := Run(text, script)
	if fault != (api.Fault{}) {
		t.Errorf("%q: %v", text, fault)
		return
	}
	if got := tell(t, text, places, trace); got != want {
		t.Errorf("%q by %v:\n%s, not\n%s", text, script, got, want)
	}
	if !slices.Equal(script, kept) {
		t.Errorf("%q: the script is now %v, not %v", text, script, kept)
	}
}

// holdPrints runs main's statements, decls ahead of it, and holds what is printed by thread 0 alone.
func holdPrints(t *testing.T, decls, stmts string, want ...int) {
	t.Helper()
	text := decls + "\nfunc main(){" + stmts + "}"
	trace, fault := Run(text, nil)
	var got []int
	for _, e := range trace.Events {
		if e.Kind == api.EvPrint {
			got = append(got, e.Num)
		}
	}
	if fault != (api.Fault{}) || trace.Status != api.Done || !slices.Equal(got, want) {
		t.Errorf("%s: %v, %d at %d, prints %v, not %v", text, fault, trace.Status, trace.At, got, want)
	}
}

// ab has two structs, with methods, and an interface of both.
const ab = `type A struct { n int; b bool; a *A; c chan int; f func(int) int; i I }
type B struct { n int }
type I interface { get() int }
func (a *A) get() int { return a.n }
func (a *A) add(n int) int { a.n = a.n + n; return a.n }
func (a *A) none() bool { return a == nil }
func (b *B) get() int { if b == nil { return 7 }; return -b.n }
func p(n int) int { print(n); return n }
func pb(n int, b bool) bool { print(n); return b }
func isNil(i I) bool { return i == nil }
`

func TestFaultsFirst(t *testing.T) {
	for _, text := range []string{
		"", "func main(){", "func main(){x:=1;x=true}", "func f(){}", "func main(){y}", "\xff", "func main(){print(1)}\x00",
		strings.Repeat(" ", api.MaxText+1), "func main(){print(nil)}", "func main(){f()}", "type A struct{a int;a int};func main(){}",
		"func main(){x:=0;go func(){x=1}();x=2;print(z)}",
	} {
		_, want := check.Check(text)
		trace, fault := Run(text, []int{1, 2})
		if fault != want || fault.Code == api.OK || trace.Events != nil || trace.Status != 0 || trace.At != 0 {
			t.Errorf("%q: %v, %v, not %v", text, trace, fault, want)
		}
	}
}

// TestNumbers: E1, E3: numbers of 64 bits go round; quotients and what is left round to 0.
func TestNumbers(t *testing.T) {
	least := "x:=1;n:=0;for n<63{x=x*2;n=n+1};"
	holdPrints(t, "", least+"print(x);print(-x);print(x-1);print(x-1+1);print(x+x);print(x*x);print(x*3)",
		math.MinInt64, math.MinInt64, math.MaxInt64, math.MinInt64, 0, 0, math.MinInt64)
	holdPrints(t, "", least+"print(x/-1);print(x%-1);print(x/1);print((x-1)/-1);print(x<0);print(x-1>0)", math.MinInt64, 0, math.MinInt64, -math.MaxInt64, 1, 1)
	holdPrints(t, "", "print(7/2);print(-7/2);print(7/-2);print(-7/-2);print(7%2);print(-7%2);print(7%-2);print(-7%-2)", 3, -3, -3, 3, 1, -1, 1, -1)
	nines := 999999999
	holdPrints(t, "", "x:=999999999;print(x*x);print(x*x*x);print(-x*x*x*x)", nines*nines, nines*nines*nines, -nines*nines*nines*nines)
	holdPrints(t, "", "print(2-3-4);print(2+3*4);print((2+3)*4);print(-2*3);print(- -5);print(0);print(10%4*3)", -5, 14, 20, -6, 5, 0, 6)
	holdPrints(t, "", "print(1<2);print(2<2);print(2<=2);print(3<=2);print(3>2);print(2>2);print(2>=2);print(1>=2);print(1==1);print(1!=1);print(1==2);print(1!=2)",
		1, 0, 1, 0, 1, 0, 1, 0, 1, 0, 0, 1)
	holdPrints(t, "", "print(true);print(false);print(!true);print(!false);print(true==true);print(true==false);print(true!=false)", 1, 0, 0, 1, 1, 0, 1)
}

// TestZero: E1, E2: fields, functions without a return, and closed channels give the zero value of their type.
func TestZero(t *testing.T) {
	holdPrints(t, ab, "a:=new(A);print(a.n);print(a.b);print(a.a==nil);print(a.c==nil);print(a.f==nil);print(a.i==nil)", 0, 0, 1, 1, 1, 1)
	zero := "func i() int {};func b() bool {};func a() *A {};func c() chan int {};func f() func() {};func j() I { if false { return new(A) } }\n"
	holdPrints(t, ab+zero, "print(i());print(b());print(a()==nil);print(c()==nil);print(f()==nil);print(j()==nil);print(i()+1)", 0, 0, 1, 1, 1, 1, 1)
	holdPrints(t, ab, "c:=make(chan int);close(c);print(<-c+1);d:=make(chan bool,1);close(d);print(!<-d);e:=make(chan *A);close(e);print(<-e==nil);f:=make(chan I,2);f<-new(A);close(f);print(isNil(<-f));print(isNil(<-f))", 1, 1, 1, 0, 1)
	holdPrints(t, ab, "c:=make(chan func() int,1);c<-func() int {return 3};close(c);print((<-c)());print(<-c==nil);d:=make(chan chan int);close(d);print(<-d==nil)", 3, 1, 1)
}

// TestThings: E1, E2: a thing is there once, whatever it is called.
func TestThings(t *testing.T) {
	holdPrints(t, ab, "a:=new(A);b:=new(A);print(a==b);print(a==a);b=a;print(a==b);b.n=5;print(a.n);print(a!=b)", 0, 1, 1, 5, 0)
	holdPrints(t, ab, "c:=make(chan int);d:=make(chan int);print(c==d);d=c;print(c==d);print(c==nil);print(nil!=c)", 0, 1, 0, 1)
	holdPrints(t, ab+"func same(i I, j I) bool { return i == j }", "a:=new(A);print(same(a,a));print(same(a,new(A)));print(same(a,nil));print(same(nil,nil));print(same(a,new(B)));a.i=a;print(a.i==a);print(a==a.i);print(a.i.(*A)==a)", 1, 0, 0, 1, 0, 1, 1, 1)
	// A pointer that is nil makes an interface nil.
	holdPrints(t, ab, "a:=new(A);print(isNil(a.a));print(isNil(a));a.i=a.a;print(a.i==nil);a.i=a;print(a.i==nil)", 1, 0, 1, 0)
	holdPrints(t, ab, "print(p==nil);f:=p;print(f!=nil);a:=new(A);print(a.get==nil);print(func(){}==nil);print(a.f==nil);a.f=a.add;print(a.f==nil);print(a.f(4));print(a.f(4));print(a.n)", 0, 1, 0, 0, 1, 0, 4, 8, 8)
	// Methods keep what stands ahead of their `.`, be it nil.
	holdPrints(t, ab, "a:=new(A);a.n=3;m:=a.get;a=new(A);print(m());print(a.get());a=nil;print(a.none());n:=a.none;print(n());b:=new(B);b=nil;print(b.get())", 3, 0, 1, 1, 7)
	holdPrints(t, ab+"func get(i I) int { f := i.get; return f() }", "a:=new(A);a.n=3;b:=new(B);b.n=4;print(get(a));print(get(b));a.i=b;print(a.i.get());a.i=a;print(a.i.get())", 3, -4, -4, 3)
}

// TestVariables: E1: each is made anew each time; a literal uses those that were there when it was made.
func TestVariables(t *testing.T) {
	holdPrints(t, "", "x:=1;f:=func() int {x=x+1;return x};print(f());print(f());print(x);x=10;print(f())", 2, 3, 3, 11)
	holdPrints(t, "func count() func() int {n:=0;return func() int {n=n+1;return n}}", "a:=count();b:=count();print(a());print(a());print(b());print(a())", 1, 2, 1, 3)
	// A loop's block has a new variable each time; the literals of the times before keep theirs.
	loop := "f:=func() int {return 0};i:=0;for i<3{x:=i*10;g:=f;f=func() int {x=x+1;return x+g()};i=i+1};"
	holdPrints(t, "", loop+"print(f());print(f())", 1+11+21, 2+12+22)
	holdPrints(t, "func add(n int) func(int) int {return func(k int) int {n=n+k;return n}}", "a:=add(1);b:=add(100);print(a(1));print(b(1));print(a(5));print(b(0))", 2, 101, 7, 101)
	holdPrints(t, ab, "a:=new(A);b:=new(A);set:=func(x *A) {x.n=9;x=new(A);x.n=8};set(a);print(a.n);set(b);print(b.n)", 9, 9)
	cases := "c:=make(chan int,2);c<-1;c<-2;f:=func() int {return 0};i:=0;for i<2{select{case x:=<-c:g:=f;f=func() int {x=x+1;return x*10+g()}};i=i+1};"
	holdPrints(t, "", cases+"print(f());print(f())", 30+20, 40+30)
	holdPrints(t, "", "x:=1;if true{x:=x+1;print(x);x=x+1;print(x)};print(x);f:=func(x int) int {x=x+1;return x};print(f(5));print(x)", 2, 3, 1, 6, 1)
	holdPrints(t, "func (a *A) twice() *A {a.n=a.n*2;b:=a;a=new(A);return b};type A struct{n int}", "a:=new(A);a.n=3;print(a.twice().twice().n);print(a.n)", 12, 12)
	// A function that is called within itself has its own variables each time.
	holdPrints(t, "func f(n int) int {x:=n;if n>0{f(n-1)};return x};func fib(n int) int {if n<2{return n};return fib(n-1)+fib(n-2)}", "print(f(5));print(fib(10))", 5, 55)
	holdPrints(t, "", "f:=func(n int) int {return 0};f=func(n int) int {if n==0{return 0};return n+f(n-1)};print(f(4))", 10)
}

// TestOrder: E2: parts are done from the left.
func TestOrder(t *testing.T) {
	holdPrints(t, ab, "x:=p(1)+p(2)*p(3);y:=(p(4)-p(5))*p(6);print(x+y)", 1, 2, 3, 4, 5, 6, 1)
	holdPrints(t, ab, "x:=p(1)<p(2)==(p(3)<=p(4));print(x);z:=p(5)/p(6);print(z)", 1, 2, 3, 4, 1, 5, 6, 0)
	holdPrints(t, ab, "print(pb(1,false)&&pb(2,true));print(pb(3,true)&&pb(4,false));print(pb(5,true)||pb(6,true));print(pb(7,false)||pb(8,true));print(pb(9,false)&&pb(10,true)||pb(11,true)&&pb(12,true))",
		1, 0, 3, 4, 0, 5, 1, 7, 8, 1, 9, 11, 12, 1)
	holdPrints(t, ab+"func f(n int) func(int,int) int {print(n);return func(a int,b int) int {print(100);return a*10+b}};func g(n int) *A {print(n);return new(A)}",
		"print(f(1)(p(2),p(3)));print(g(4).add(p(5)));g(6).n=p(7);g(8).a=g(9);print(g(10).n+p(11))", 1, 2, 3, 100, 23, 4, 5, 5, 6, 7, 8, 9, 10, 11, 11)
	holdPrints(t, ab+"func c(n int) chan int {print(n);return make(chan int,1)}",
		"c(1)<-p(2);select{case c(3)<-p(4):case c(5)<-p(6):case <-c(7):default:};close(c(8));go func(a int,b int){}(p(9),p(10))", 1, 2, 3, 4, 5, 6, 7, 8, 9, 10)
	// What is left of an assignment is looked at behind the value just if the thing is another one then.
	holdPrints(t, ab, "a:=new(A);b:=a;a.n=func() int {a=new(A);return 5}();print(a.n);print(b.n)", 0, 5)
	holdPrints(t, ab, "x:=1;x=x+func() int {x=10;return x}();print(x);y:=func() int {x=20;return x}()+x;print(y)", 11, 40)
	holdPrints(t, ab, "a:=new(A);print(a.add(1)*100+a.add(1)*10+a.add(1));f:=a.add;a=nil;print(f(1))", 123, 4)
}

// TestGoesOn: E2: conditions, rounds, break and return.
func TestGoesOn(t *testing.T) {
	holdPrints(t, ab, "i:=0;for pb(i,i<3){i=i+1};print(9)", 0, 1, 2, 3, 9)
	holdPrints(t, "", "i:=0;for true{i=i+1;if i==2{break};k:=0;for true{k=k+1;if k==3{break};print(i*10+k)}};print(i)", 11, 12, 2)
	holdPrints(t, "", "for true{for true{break};select{default:break};print(1)};print(2)", 2)
	holdPrints(t, "func f(n int) int {for true{if n>5{return n};n=n+1;if n==4{return -n}};return 0};func g(){for true{return};print(9)}", "print(f(1));print(f(4));print(f(9));g();print(1);return;print(2)", -4, 6, 9, 1)
	holdPrints(t, "func f(n int) int {if n==0{return 10}else if n==1{return 11}else if n==2{}else{return 13};return 12}", "print(f(0));print(f(1));print(f(2));print(f(3))", 10, 11, 12, 13)
	holdPrints(t, "func f() int {c:=make(chan int,1);for true{select{case c<-1:print(1);case x:=<-c:return x+1}};return 0}", "print(f());if false{print(3)};for false{print(4)}", 1, 2)
	holdPrints(t, "func main2(){print(1)};func f(g func() int,h func()) {h();print(g());h()}", "f(func() int {return 5},main2);g:=main2;g();func(){print(7);return}()", 1, 5, 1, 1, 7)
}

// TestFalls: E3.
func TestFalls(t *testing.T) {
	for _, x := range []struct{ decls, stmts, want string }{
		{"", "@1panic(1)", "fell KPanic@1"},
		{"", "print(2);@1panic(1/1);print(3)", "0 print 2; fell KPanic@1"},
		{"", "panic(1@1/0)", "fell KBinary@1"},
		{"", "x:=0;print(1);print(1+2@1%x)", "0 print 1; fell KBinary@1"},
		{ab, "x:=p(1)@1/(p(2)-2);p(3)", "0 print 1; 0 print 2; fell KBinary@1"},
		{ab, "a:=new(A);print(a.a@1.n)", "fell KDot@1"},
		{ab, "a:=new(A);b:=a.a@1.a", "fell KDot@1"},
		{ab, "a:=new(A);a.a@1.n=p(3)", "0 print 3; fell KDot@1"},
		{ab, "a:=new(A);a.a@2.a@1.n=p(3)", "fell KDot@2"},
		{ab, "a:=new(A);a.a@1.a=func() *A {a.a=new(A);return a}()", "fell KDot@1"},
		{ab, "a:=new(A);a.i@1.get()", "fell KDot@1"},
		{ab, "a:=new(A);f:=a.i@1.get;print(f())", "fell KDot@1"},
		{ab, "a:=new(A);print(a.a.none());print(a.a.add@2(a.a@1.n))", "0 print 1; fell KDot@1"},
		{ab, "a:=new(A);a.a.get()", "fell KDot"},
		{ab, "a:=new(A);b:=a.i@1.(*A)", "fell KAssert@1"},
		{ab, "a:=new(A);a.i=new(B);c:=a.i.(*B);print(c.n);b:=a.i@1.(*A)", "0 print 0; fell KAssert@1"},
		{ab, "a:=new(A);a.f@1(p(1))", "fell KCall@1"},
		{ab, "a:=new(A);a.f=p;a.f(1);a.f=nil;print(a.f@1(p(2)))", "0 print 1; fell KCall@1"},
		{ab, "a:=new(A);go a.f@1(p(1));print(2)", "fell KCall@1"},
		{ab, "a:=new(A);go a.i@1.get();print(2)", "fell KDot@1"},
		{"", "c:=make(chan int);close(c);@1c<-1", "0 close; fell KSend@1"},
		{"", "c:=make(chan int,1);close(c);@1c<-1", "0 close; fell KSend@1"},
		{"", "c:=make(chan int);close(c);select{@1case c<-1:}", "0 close; fell KCaseSend@1"},
		{"", "c:=make(chan int);close(c);select{default:@1case c<-1:}", "0 close; fell KCaseSend@1"},
		{ab, "@1close(new(A).c)", "fell KClose@1"},
		{"", "c:=make(chan int);close(c);@1close(c)", "0 close; fell KClose@1"},
	} {
		hold(t, x.decls+"func main(){"+x.stmts+"}", nil, x.want)
	}
	// A thread other than main makes the run fall, too; what has been told stays.
	hold(t, "func main(){c:=make(chan int);go func(){print(1);print(2);@1panic(3)}();<-c;print(4)}", nil, "0 go 1; 1 print 1; 1 print 2; fell KPanic@1")
	// The mark is met first: KClose, KSend fall when they are picked, KCall and KDot ahead of it.
	hold(t, "func main(){c:=make(chan int);c=nil;go func(){@1close(c)}();print(1)}", nil, "0 go 1; 0 print 1; 0 end; done")
	hold(t, "func main(){c:=make(chan int);c=nil;go func(){@1close(c)}();print(1)}", []int{1}, "0 go 1; fell KClose@1")
	hold(t, "func main(){f:=func(){};f=nil;go func(){go f@1()}();print(1)}", nil, "0 go 1; fell KCall@1")
}

// TestCallsWithin: E3: a call that would be within MaxCalls others of its thread falls, behind its values.
func TestCallsWithin(t *testing.T) {
	f := "func f(n int) int {if n==0{return 0};return f@1(n-1)};"
	most := strconv.Itoa(api.MaxCalls - 1)
	more := strconv.Itoa(api.MaxCalls)
	hold(t, f+"func main(){print(f("+most+"));print(f("+most+"))}", nil, "0 print 0; 0 print 0; 0 end; done")
	hold(t, f+"func main(){print(f("+more+"))}", nil, "fell KCall@1")
	// Each thread has its own calls, and begins with none.
	hold(t, f+"func main(){c:=make(chan int);g:=func(n int){c<-f(n)};go g("+most+");print(<-c)}", nil, "0 go 1; 1 send 0; 0 recv 0; 0 print 0; 0 end; done")
	hold(t, f+"func g(n int,c chan int){if n>0{g(n-1,c);return};go h(c);<-c};func h(c chan int){f("+most+");c<-1};func main(){g("+most+",make(chan int))}", nil, "0 go 1; 1 send 1; 0 recv 1; 0 end; done")
	hold(t, f+"func main(){c:=make(chan int);go func(){c<-f("+more+")}();print(<-c)}", nil, "0 go 1; fell KCall@1")
	// The values are done first: they are within as many calls as what is called.
	hold(t, "func f(n int,c chan int) int {if n==0{return f@1(<-c,c)};return f(n-1,c)};func main(){c:=make(chan int,1);c<-5;f("+most+",c)}", nil, "0 send 5; 0 recv 5; fell KCall@1")
	v := "func v(n int) int {return n};func f(n int) int {if n==0{return 0};return f(v@1(n-1))};"
	hold(t, v+"func main(){print(f("+most+"))}", nil, "0 print 0; 0 end; done")
	hold(t, v+"func main(){print(f("+more+"))}", nil, "fell KCall@1")
	// Literals and methods are calls like others.
	half := api.MaxCalls / 2
	lit := "func f(n int) {if n==0{return};func(){f@1(n-1)}()};"
	hold(t, lit+"func main(){f("+strconv.Itoa(half-1)+")}", nil, "0 end; done")
	hold(t, lit+"func main(){f("+strconv.Itoa(half)+")}", nil, "fell KCall@1")
	m := "type A struct{};type I interface{m(n int,i I)};func (a *A) m(n int,i I) {if n==0{return};i.m@1(n-1,a)};"
	hold(t, m+"func main(){new(A).m("+most+",new(A))}", nil, "0 end; done")
	hold(t, m+"func main(){new(A).m("+more+",new(A))}", nil, "fell KCall@1")
}

// padded answers statements that take so many steps, at least 11; they use q, an int, and make n.
func padded(steps int) string {
	rounds := (steps - 8) / 8
	left := steps - 6 - 8*rounds
	text := "n:=0;for n<" + strconv.Itoa(rounds) + "{n=n+1};"
	for left%2 != 0 || left > 0 {
		if left%2 != 0 {
			text += "q=-1;"
			left -= 3
		} else {
			text += "q=1;"
			left -= 2
		}
	}
	return text
}

// TestSteps: E4: each program would be Out if one step more were counted than is said, and not Out if one less were.
func TestSteps(t *testing.T) {
	decls := ab + "func f(n int) int {return n};func g() {}\n"
	first := "q:=0;b:=true;a:=new(A);a.i=a;c:=make(chan int,1);d:=make(chan int,1);r:=make(chan int);"
	const firstSteps = 1 + 2 + 2 + 2 + 3 + 2 + 2 + 2
	for stmts, steps := range map[string]int{
		"print(1)": 2, "x:=1": 2, "q=2": 2, "x:=q": 2, "b=a==nil": 4, "x:=!b": 3, "x:=-q": 3, "x:=1+2*3": 6, "x:=(1)": 2,
		"if b{}": 3, "if b{}else{}": 3, "if b==false{}": 4, "if false{}else{}": 3, "if false{}else if b{}": 5, "if false{}else if false{}": 4, "if b{q=1}": 5,
		"for false{}": 2, "for true{break}": 4, "for q<3{q=q+3}": 12, "for true{if b{break}}": 7,
		"f(1)": 7, "g()": 4, "q=f(f(1))": 12, "func(){}()": 4, "x:=func(){print(1)}": 2, "func(x int){x=1}(2)": 7,
		"go f(1)": 6, "go g()": 3, "go func(){print(1)}()": 5, "go a.get()": 7,
		"a.n=1": 3, "a.a=a.a": 4, "a.a=a": 3, "x:=a.n": 3, "x:=a.add": 3, "a.none()": 9, "a.i.get()": 9,
		"x:=a.i.(*A)": 4, "x:=new(A)": 2, "x:=make(chan int,3)": 2, "x:=make(chan func(int) chan int)": 2,
		"b=b&&b": 4, "b=false&&b": 3, "b=b||b": 3, "b=false||b": 4,
		"c<-1": 3, "c<-1;<-c": 6, "close(c)": 2, "close(c);<-c": 5, "c<-1;q=<-c": 6,
		"select{default:}": 2, "select{default:q=1}": 4, "select{case <-c:default:}": 3, "select{case x:=<-c:default:}": 3, "select{case c<-1:}": 4, "select{case c<-1:case d<-f(2):}": 6 + 5,
		"return": 1, "return;q=1": 1, "go func(){r<-1}();<-r": 2 + 4 + 3,
	} {
		pad := api.MaxSteps - firstSteps - steps
		hold := func(pad int, want int) {
			text := decls + "func main(){" + first + padded(pad) + stmts + "}"
			trace, fault := Run(text, nil)
			if fault.Code != api.OK || trace.Status != want {
				t.Errorf("%q with %d steps ahead: %v, %d at %d", stmts, pad, fault, trace.Status, trace.At)
			}
		}
		hold(pad, api.Done)
		hold(pad+1, api.Out)
	}
}

// TestOut: E4: the run ends at the node of the step that would be one too many.
func TestOut(t *testing.T) {
	hold(t, "func main(){for @1true@2{}}", nil, "out KTruth@1")
	hold(t, "func main(){go func(){x:=-1;for @1true@2{}}();<-make(chan int)}", nil, "0 go 1; out KBlock@2")
	hold(t, "func main(){print(1);for @1true@2{print(2)}}", []int{1, 2}, "0 print 1; "+strings.Repeat("0 print 2; ", 999)+"out KTruth@1")
	first := "q:=0;a:=new(A);c:=make(chan int,1);"
	const firstSteps = 1 + 2 + 2 + 2
	for _, x := range []struct{ stmts, order string }{
		{"@1a.n=f@2(@3q)", "KAssign@1 KName@1 KCall@2 KName KName@3 KBlock@4 KReturn@5 KName@6"},
		{"@1q=@2-@3q+@7q", "KAssign@1 KBinary KNeg@2 KName@3 KName@7"},
		{"@1go f@2(@3q)", "KGo@1 KName KName@3"},
		{"@1c<-@2q@3*1", "KSend@1 KName@1 KBinary@3 KName@2 KNumber"},
		{"@1if @2q@3<9@7{@8f@9(q)}", "KIf@1 KBinary@3 KName@2 KNumber KBlock@7 KDo@8 KCall@9 KName@8"},
		{"@1select{case @2c<-@3q@7:}", "KSelect@1 KName@2 KName@3"},
		{"@1x:=@2f@3(1)", "KDefine@1 KCall@3 KName@2"},
		{"@1for @2q@3<9@7{@8break}", "KFor@1 KBinary@3 KName@2 KNumber KBlock@7 KBreak@8"},
		{"@1print(@2a@3.n)", "KPrint@1 KDot@3 KName@2"},
	} {
		for ahead, node := range strings.Fields(x.order) {
			text := ab + "func f(k int) int@4{@5return @6k};func main(){" + first + padded(api.MaxSteps-firstSteps-ahead) + x.stmts + "}"
			hold(t, text, nil, "out "+node)
		}
	}
	// Steps behind marks.
	hold(t, ab+"func main(){"+first+padded(api.MaxSteps-firstSteps-3)+"select{@1case c<-5@2:}}", nil, "0 send@1 5; out KBlock@2")
	hold(t, ab+"func main(){"+first+padded(api.MaxSteps-firstSteps-2)+"@1go func()@2{}()}", nil, "0 go@1 1; out KBlock@2")
}
