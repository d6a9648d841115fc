package fold

import (
	"slices"
	"strings"
	"testing"

	"ravel/api"
	"ravel/check"
	"ravel/run"
	"ravel/syntax"
)

// hold holds that a program folds to another one, whose text need not be in the one form, and that this one runs as the first one by some scripts.
func hold(t *testing.T, text, want string) {
	t.Helper()
	form, wrong := syntax.Print(want)
	got, fault := Fold(text)
	if wrong.Code != api.OK || fault != (api.Fault{}) || got != form {
		t.Errorf("%q: %v, %v:\n%snot\n%s", text, fault, wrong, got, form)
		return
	}
	if _, fault := check.Check(got); fault.Code != api.OK {
		t.Errorf("%q: %v of\n%s", text, fault, got)
	}
	for _, script := range [][]int{nil, {1, 1, 1, 1, 1, 1}, {0, 1, 0, 2, 1, 0, 3}} {
		holdRuns(t, text, got, script)
	}
}

// holdRuns holds that two programs run alike, and answers how both end.
func holdRuns(t *testing.T, text, folded string, script []int) (int, int) {
	t.Helper()
	first, one := run.Run(text, script)
	second, other := run.Run(folded, script)
	for _, events := range [][]api.Event{first.Events, second.Events} {
		for i := range events {
			events[i].Node = 0
		}
	}
	alike := first.Status == second.Status && slices.Equal(first.Events, second.Events)
	if first.Status == api.Out || second.Status == api.Out {
		fewer := min(len(first.Events), len(second.Events))
		alike = slices.Equal(first.Events[:fewer], second.Events[:fewer])
	}
	if one.Code != api.OK || other.Code != api.OK || !alike {
		t.Errorf("%q, by %v: %v, %v\n%v, not\n%v", text, script, one, other, second, first)
	}
	return first.Status, second.Status
}

// around is put around statements: they stand in a function with the params p, int, q, bool, and e, a channel.
const around = "type A struct{n int;b bool;a *A};type I interface{m(n int)int};func(a *A)m(n int)int{print(n);return n};func h(n int)int{print(n);return n};" +
	"func g(p int,q bool,e chan int)int{%};func main(){e:=make(chan int,2);e<-1;print(g(3,true,e));print(g(0,false,e))}"

// within holds what statements fold to.
func within(t *testing.T, stmts, want string) {
	t.Helper()
	hold(t, strings.Replace(around, "%", stmts, 1), strings.Replace(around, "%", want, 1))
}

// same holds that statements stay as they are.
func same(t *testing.T, stmts string) {
	t.Helper()
	within(t, stmts, stmts)
}

// TestExample: the text itself, to the byte.
func TestExample(t *testing.T) {
	for _, x := range []struct{ text, want string }{
		{"func main(){print(1+2*3)}", "func main() {\n\tprint(7)\n}\n"},
		{"func main(){x:=2;if x<3{print(x+1)}else{print(0)}}", "func main() {\n\tx := 2\n\tif true {\n\t\tprint(3)\n\t}\n}\n"},
		{"func main(){if false{}else if 1>0{print(3-4)}}", "func main() {\n\tif true {\n\t\tif true {\n\t\t\tprint(-1)\n\t\t}\n\t}\n}\n"},
		{"func main(){for false{}};func f(){}", "func main() {\n}\n\nfunc f() {\n}\n"},
		{"func main(){}// nothing", "func main() {\n}\n"},
	} {
		if got, fault := Fold(x.text); got != x.want || fault != (api.Fault{}) {
			t.Errorf("%q: %q, %v, not %q", x.text, got, fault, x.want)
		}
	}
}

// TestResting: O1: stations that do not go are taken away.
func TestResting(t *testing.T) {
	within(t, "print(1);return 2;print(3);x:=4;print(x)", "print(1);return 2")
	within(t, "if q{panic(1);print(2)};return 3", "if q{panic(1)};return 3")
	within(t, "for q{break;print(1)};return 2", "for q{break};return 2")
	within(t, "for q{if p>0{break;print(1)}else{return 1;print(2)};print(3)};return 2", "for q{if p>0{break}else{return 1}};return 2")
	within(t, "for true{if q{break};return 1};print(2)", "for true{if q{break};return 1};print(2)")
	within(t, "x:=0;for x<1{print(x);if q{return 5}};print(2);return 3", "x:=0;for true{print(0);if q{return 5}}")
	within(t, "if q{select{};print(1)};print(2)", "if q{select{}};print(2)")
	within(t, "select{case <-e:return 1;print(1);case e<-2:if q{return 2};print(2);default:panic(3);print(3)};print(4)",
		"select{case <-e:return 1;case e<-2:if q{return 2};print(2);default:panic(3)};print(4)")
	// All kinds of statements.
	within(t, "return 1;x:=1;x=2;h(1);<-e;e<-1;go h(1);close(e);panic(1);print(1);if q{print(1)};for q{break};select{case <-e:print(1)};return 2", "return 1")
	// Together with what is in them; also if literals, which go by themselves, are.
	within(t, "return 1;go func(){print(1)}();x:=func(n int){print(n)};x(2)", "return 1")
	within(t, "if q{return 1}else{return 2};for q{print(1)}", "if q{return 1}else{return 2}")
	// A block stays, if nothing of it does.
	within(t, "if h(1)>9&&false{print(1)}else{print(2)};return 3", "if h(1)>9&&false{}else{print(2)};return 3")
	within(t, "if h(1)>9||true{print(1)}else{print(2)};return 3", "if h(1)>9||true{print(1)}else{};return 3")
	within(t, "for h(1)>9&&false{print(1)};return 3", "for h(1)>9&&false{};return 3")
	// In all functions.
	hold(t, "type A struct{};func(a *A)m()int{return 1;print(2)};func f(){for true{};print(3)};func main(){print(new(A).m());h:=func(){panic(4);print(5)};h();return;print(6)}",
		"type A struct{};func(a *A)m()int{return 1};func f(){for true{}};func main(){print(new(A).m());h:=func(){panic(4)};h();return}")
}

// TestFor: O1: loops.
func TestFor(t *testing.T) {
	within(t, "for false{print(1)};x:=1;for x>1{x=2};for 1>2&&q{};return x", "x:=1;return 1")
	within(t, "for true{return 1}", "for true{return 1}")
	within(t, "x:=3;for x==3{return x}", "x:=3;for true{return 3}")
	// What is any, and what is always 0, but not sure.
	same(t, "i:=0;for i<3{i=i+1};return i")
	same(t, "for p/p>1&&false{};return 1")
	same(t, "for <-e>0&&false{};return 1")
	// In one another, and in other statements.
	within(t, "for q{for false{break};for true{break};break}", "for q{for true{break};break}")
	within(t, "if q{for false{}}else{for false{}};select{default:for false{print(1)}}", "if q{}else{};select{default:}")
	within(t, "for false{for true{for false{}}}", "")
}

// TestIf: O1: ifs with a block behind the else, or none.
func TestIf(t *testing.T) {
	within(t, "if false{print(1)};x:=1;if x>1{print(2)};return 3", "x:=1;return 3")
	within(t, "if false{print(1)}else{print(2)};x:=1;if x>1{print(3)}else{print(x)}", "if true{print(2)};x:=1;if true{print(1)}")
	within(t, "if true{print(1)}else{print(2)};x:=1;if x==1{print(x)}else{print(4)}", "if true{print(1)};x:=1;if true{print(1)}")
	within(t, "if true{print(1)};x:=1;if x==1{print(2)}", "if true{print(1)};x:=1;if true{print(2)}")
	// Empty blocks.
	within(t, "if false{};if true{};if false{}else{};if true{}else{};if false{print(1)}else{};if true{}else{print(1)}", "if true{};if true{};if true{};if true{};if true{}")
	same(t, "if q{};if q{}else{};if p>1{print(1)}else{}")
	// What is always so, but not sure.
	same(t, "if h(1)>2&&false{};if h(1)>2||true{print(1)};if h(1)>2&&false{}else{print(2)}")
	within(t, "if h(1)>2||true{print(1)}else{print(2);print(3)};if h(1)>2&&false{print(2)}", "if h(1)>2||true{print(1)}else{};if h(1)>2&&false{}")
	// Blocks keep what they define.
	within(t, "x:=1;if x>1{x:=2;print(x)}else{x:=3;print(x);if q{x=4};print(x)};return x", "x:=1;if true{x:=3;print(3);if q{x=4};print(x)};return 1")
	// In one another, from the outside in.
	within(t, "if true{if false{if true{print(1)}}else{if true{print(2)}else{print(3)}}}", "if true{if true{if true{print(2)}}}")
	within(t, "if false{if true{print(1)}}", "")
	within(t, "if false{print(1)}else{if false{print(2)}}", "if true{}")
	within(t, "if true{if false{print(1)}}", "if true{}")
	// From a part that is done one does not go on.
	within(t, "if true{return 1};print(2)", "if true{return 1}")
	within(t, "if false{print(1)}else{return 1};print(2)", "if true{return 1}")
}

// TestElseIf: O1: ifs behind an else.
func TestElseIf(t *testing.T) {
	same(t, "if q{print(1)}else if p>1{print(2)}else if p>0{print(3)}else{print(4)}")
	// Those that are taken away: as they are sure to be 0, or do not go.
	within(t, "if q{print(1)}else if false{print(2)}", "if q{print(1)}")
	within(t, "if q{print(1)}else if p>1{print(2)}else if false{print(3)}", "if q{print(1)}else if p>1{print(2)}")
	within(t, "if h(1)>2||true{print(1)}else if q{print(2)}else{print(3)}", "if h(1)>2||true{print(1)}")
	within(t, "if q{print(1)}else if true{print(2)}else if q{print(3)}", "if q{print(1)}else if true{print(2)}")
	within(t, "if true{print(1)}else if q{print(2)}else{print(3)}", "if true{print(1)}")
	// Of one that is sure to be 0.
	within(t, "if false{print(1)}else if q{print(2)}", "if true{if q{print(2)}}")
	within(t, "if false{print(1)}else if q{print(2)}else{print(3)}", "if true{if q{print(2)}else{print(3)}}")
	within(t, "if false{print(1)}else if q{print(2)}else if p>1{print(3)}", "if true{if q{print(2)}else if p>1{print(3)}}")
	within(t, "if false{print(1)}else if true{print(2)}", "if true{if true{print(2)}}")
	within(t, "if false{print(1)}else if false{print(2)}", "if true{}")
	within(t, "if false{print(1)}else if false{print(2)}else{print(3)}", "if true{if true{print(3)}}")
	within(t, "if false{print(1)}else if false{print(2)}else if false{print(3)}", "if true{if true{}}")
	within(t, "if false{print(1)}else if false{print(2)}else if q{print(3)}", "if true{if true{if q{print(3)}}}")
	within(t, "if false{}else if h(1)>2&&false{print(2)}", "if true{if h(1)>2&&false{}}")
	// Behind one that is any.
	within(t, "if q{print(1)}else if false{print(2)}else{print(3)}", "if q{print(1)}else if true{print(3)}")
	within(t, "if q{print(1)}else if false{print(2)}else if p>1{print(3)}", "if q{print(1)}else if true{if p>1{print(3)}}")
	within(t, "if q{print(1)}else if false{print(2)}else if false{print(3)}", "if q{print(1)}else if true{}")
	within(t, "if q{print(1)}else if h(1)>2&&false{print(2)}else{print(3)}", "if q{print(1)}else if h(1)>2&&false{}else{print(3)}")
}

// TestNumbers: O1: which numbers stand there then.
func TestNumbers(t *testing.T) {
	within(t, "print(2+3*4);print(7/2);print(7%4);print(-7/2);print(2-2);print(-(-3))", "print(14);print(3);print(3);print(-3);print(0);print(3)")
	within(t, "print(1<2);print(1==2);print(!true);print(true&&1<=1);print(false||false);print(true!=false)", "print(true);print(false);print(false);print(true);print(false);print(true)")
	within(t, "x:=1;y:=x+1;x=y*2;print(x-y);b:=x>y;b=!b;print(b)", "x:=1;y:=2;x=4;print(2);b:=true;b=false;print(false)")
	same(t, "print(0);print(5);print(999999999);print(-1);print(-999999999);print(true);print(false);x:=0;b:=true")
	// The greatest ones that can be written, and what is beyond.
	within(t, "x:=999999998;print(x+1);print(-1-x);print(-x)", "x:=999999998;print(999999999);print(-999999999);print(-999999998)")
	within(t, "x:=999999999;print(x+1);print(-1-x);print(1-1-x);print(x+1-1)", "x:=999999999;print(999999999+1);print(-1-999999999);print(-999999999);print(999999999)")
	// What is too great stays, what is within it need not.
	within(t, "x:=3;y:=x*999999999;print(y);print(-y);print(y*(x-1));print(y/y);print(y-y*2+(1-x))", "x:=3;y:=3*999999999;print(y);print(-y);print(y*2);print(1);print(y-y*2+-2)")
	within(t, "x:=2;print((x+1)*(999999999-x)*(x+x))", "x:=2;print(3*999999997*4)")
	// The least number is itself turned.
	within(t, "x:=65536*65536;x=x*32768*65536;print(-x);print(x-1>0);print(x/-1);print(x/x)", "x:=65536*65536;x=x*32768*65536;print(-x);print(true);print(x/-1);print(1)")
	// Brackets stand just where they have to.
	within(t, "x:=0-2;print((p+x)*(x+5));print(p-x);print(x*p);print(p*(x+1));print(-(p+x));print(p-(x-p));print(p<x)", "x:=-2;print((p+-2)*3);print(p- -2);print(-2*p);print(p*-1);print(-(p+-2));print(p-(-2-p));print(p< -2)")
	within(t, "x:=1;print((p+1)*(x+2)+(x+3)*2);print(p*(1+1))", "x:=1;print((p+1)*3+8);print(p*2)")
	// A truth value is none of the numbers, though it is told by one.
	within(t, "b:=1<2;print(b==true);print(b);n:=1;print(n)", "b:=true;print(true);print(true);n:=1;print(1)")
}

// TestPlaces: O1: where expressions are looked at.
func TestPlaces(t *testing.T) {
	within(t, "x:=1;y:=x;e<-x;a:=new(A);a.n=x+1;h(x);go h(x+2);print(<-e+x);a.m(x);if q{return x};panic(x+4)", "x:=1;y:=1;e<-1;a:=new(A);a.n=2;h(1);go h(3);print(<-e+1);a.m(1);if q{return 1};panic(5)")
	// Not what stands left; but what stands ahead of its `.`.
	within(t, "x:=1;x=x+1;x=x+1;f:=func(n int)*A{print(n);return new(A)};f(x+1).n=x;f(x).a=f(x+2);print(x)", "x:=1;x=2;x=3;f:=func(n int)*A{print(n);return new(A)};f(4).n=3;f(3).a=f(5);print(3)")
	// A select's.
	within(t, "x:=1;f:=func(n int)chan int{return e};select{case f(x)<-x+1:print(x);case y:=<-f(x+2):print(y+x)}", "x:=1;f:=func(n int)chan int{return e};select{case f(1)<-2:print(1);case y:=<-f(3):print(y+1)}")
	within(t, "d:=make(chan chan int,1);d<-e;x:=1;select{case (<-d)<-x:print(x)}", "d:=make(chan chan int,1);d<-e;x:=1;select{case (<-d)<-1:print(1)}")
	// Conditions.
	within(t, "x:=1;for p>x{p=p-x};if p==x{print(x)}", "x:=1;for p>1{p=p-1};if p==1{print(1)}")
	// In what is none itself.
	within(t, "x:=1;a:=new(A);i:=func(n int)I{return a}(x);print(i.(*A).m(x));print(h(h(x)+x));print(-h(x)*x);print(!(h(x)>x));print(a==nil||x>h(x))", "x:=1;a:=new(A);i:=func(n int)I{return a}(1);print(i.(*A).m(1));print(h(h(1)+1));print(-h(1)*1);print(!(h(1)>1));print(a==nil||1>h(1))")
	// Literals, wherever they stand; what they share stays.
	within(t, "x:=1;y:=2;f:=func(n int)int{z:=3;if z>4{print(z)};return z+y+n};print(f(x)+y)", "x:=1;y:=2;f:=func(n int)int{z:=3;return 3+y+n};print(f(1)+y)")
	within(t, "print(func(n int)int{x:=1;return x+1}(1+1)+func()int{if true{return 1};return 2}())", "print(func(n int)int{x:=1;return 2}(2)+func()int{if true{return 1}}())")
	within(t, "b:=false&&func()bool{return 1>2}();print(b)", "b:=false&&func()bool{return false}();print(false)")
	// In stations that do not go nothing is looked at: they are not there.
	within(t, "if false{x:=1+2;print(x)};return 1+1", "return 2")
	// Decls, channels and things stay.
	hold(t, "type A struct{n int;c chan bool;f func(int,*A)bool};type I interface{m(b bool,f func())chan int};func f(b bool,i I)func(){return nil};func main(){c:=make(chan *A,3);d:=make(chan I,0);c<-new(A);d=nil;print(d==nil);print(1+1)}",
		"type A struct{n int;c chan bool;f func(int,*A)bool};type I interface{m(b bool,f func())chan int};func f(b bool,i I)func(){return nil};func main(){c:=make(chan *A,3);d:=make(chan I);c<-new(A);d=nil;print(d==nil);print(2)}")
}

// TestSure: O1: what is always a number, but not sure, stays.
func TestSure(t *testing.T) {
	// What is any.
	same(t, "x:=1;y:=2;if q{x=2};print(x);print(p*0);print(p==p);print(q||!q);print(q&&true);print(p/1)")
	// Names of what is any, or of what is no number, do not matter, if a side decides.
	within(t, "print(q&&false);print(q||true);print(p>1&&1>2);print(false&&q);print(true||p>1)", "print(false);print(true);print(false);print(false);print(true)")
	within(t, "a:=new(A);print(a==a&&false);print(true||a!=a)", "a:=new(A);print(false);print(true)")
	within(t, "x:=1;go func(){x=2}();print(x>5&&false);print(x)", "x:=1;go func(){x=2}();print(false);print(x)")
	// Nothing else may stand there.
	same(t, "a:=new(A);print(h(1)>2&&false);print(false&&h(1)>2);print(<-e>2||true);print(a.b&&false);print(a==nil||true);print(a==new(A)&&false);print(nil==a||true);print(func()int{return 1}()>1&&false)")
	same(t, "i:=func()I{return new(A)}();print(i.(*A)==nil||true);print(make(chan int)==e||true);print(true||i.(*A).b)")
	// What is within it is looked at.
	within(t, "x:=1;print(h(x+1)>x&&x>x);print(!(x<2&&h(1)>2)&&x>1)", "x:=1;print(h(2)>1&&false);print(!(true&&h(1)>2)&&false)")
	// Where nobody comes it is not there, so it stays.
	within(t, "x:=1;print(x>2&&h(x+1)>x);print(x<2||h(x+1)>x)", "x:=1;print(false&&h(x+1)>x);print(true||h(x+1)>x)")
	// By what is, or can be, 0; also within.
	same(t, "if q{print(1/0)};if q{print(1%0)};if q{print(0/0*0)};if p>9{print(p/p)}")
	within(t, "if p>9{print(1/p==1&&false);print(1%p==1&&false);print(1/(1-1)==1&&false);print(true||1/p==1)}", "if p>9{print(1/p==1&&false);print(1%p==1&&false);print(1/0==1&&false);print(true||1/p==1)}")
	within(t, "x:=2;print(p/x==1&&false);print(p%x==1||true);print(p/-1==1&&false);print(6/x%x)", "x:=2;print(false);print(true);print(false);print(1)")
	// By what is not there.
	same(t, "print(false&&1/2==0);print(true||1%2==0)")
	within(t, "x:=2;print(x<0&&1/x==0);print(q&&1/x==0&&false);print(1/x==0||1/0==0)", "x:=2;print(false&&1/x==0);print(false);print(true||1/0==0)")
}

// TestOnce: O1: what is folded is told by the first program, not by what comes out.
func TestOnce(t *testing.T) {
	within(t, "x:=1;if false{go func(){x=2}()};print(x)", "x:=1;print(x)")
	within(t, "x:=1;if h(1)>2&&false{x=2};print(x)", "x:=1;if h(1)>2&&false{};print(1)")
	within(t, "x:=1;for q{if x!=1{x=2};print(x);q=false};return x", "x:=1;for q{print(1);q=false};return 1")
}

// TestOut: O2: runs that are Out: a number below 0 takes a step more than a name, others take fewer than what they stand for.
func TestOut(t *testing.T) {
	for _, x := range []struct {
		text          string
		first, second int
	}{
		{"func main(){x:=0-5;i:=0;for i<300{print(x);i=i+1};print(7)}", api.Done, api.Done},
		{"func main(){x:=0-5;i:=0;for i<370{print(x);i=i+1};print(7)}", api.Done, api.Out},
		{"func main(){x:=5;i:=0;for i<370{print(x+1);i=i+1};print(7)}", api.Out, api.Done},
		{"func main(){x:=5;i:=0;for i<900{print(x+1);i=i+1};print(7)}", api.Out, api.Out},
		{"func main(){x:=5;i:=0;for i<300{x=2*3*4+5*6;print(x);i=i+1};print(7);i=1/0}", api.Out, api.Fell},
		{"func main(){print(1);for 1+1==2{};print(3)}", api.Out, api.Out},
		{"func main(){i:=0;for i<20{go func(){}();print(1+1);i=i+1}}", api.Out, api.Out},
	} {
		folded, _ := Fold(x.text)
		if first, second := holdRuns(t, x.text, folded, nil); first != x.first || second != x.second {
			t.Errorf("%q: %d, %d", x.text, first, second)
		}
	}
}

// TestEnds: O2: runs that fall, or get stuck, do so folded, too.
func TestEnds(t *testing.T) {
	for _, x := range []struct {
		text, want string
		status     int
	}{
		{"func main(){x:=0;print(1+1);print(1/x)}", "func main(){x:=0;print(2);print(1/0)}", api.Fell},
		{"func main(){x:=0;x=5%x;print(2)}", "func main(){x:=0;x=5%0;print(2)}", api.Fell},
		{"func main(){x:=1;if x>0{panic(x)};print(2)}", "func main(){x:=1;if true{panic(1)}}", api.Fell},
		{"type A struct{b bool;a *A};func main(){a:=new(A);print(a.a.b&&false)}", "type A struct{b bool;a *A};func main(){a:=new(A);print(a.a.b&&false)}", api.Fell},
		{"func main(){c:=make(chan int);if 1<2{c<-1+1};print(1)}", "func main(){c:=make(chan int);if true{c<-2};print(1)}", api.Stuck},
		{"func main(){c:=make(chan int);if <-c>0||true{print(1)}}", "func main(){c:=make(chan int);if <-c>0||true{print(1)}}", api.Stuck},
		{"func main(){if 1>2{select{}}else{print(1)}}", "func main(){if true{print(1)}}", api.Done},
	} {
		hold(t, x.text, x.want)
		if trace, _ := run.Run(x.text, nil); trace.Status != x.status {
			t.Errorf("%q: %v", x.text, trace)
		}
	}
}

// nested writes a line in the one form, with ifs around it, in a function.
func nested(function, line string, ifs int) string {
	text := strings.Repeat("\t", ifs+1) + line + "\n"
	for tabs := ifs; tabs > 0; tabs-- {
		indent := strings.Repeat("\t", tabs)
		text = indent + "if q {\n" + text + indent + "}\n"
	}
	return function + " {\n" + text + "}\n"
}

// TestTooGreat: O1, O2: what comes out is told also if it is too long, of too many nodes, or too deep.
func TestTooGreat(t *testing.T) {
	opened, shut := "func f(q bool,n int){"+strings.Repeat("if q{", 27), strings.Repeat("}", 28)+";func main(){}"
	for _, x := range []struct {
		text, want string
		code       api.Errno
	}{
		{"func main(){x:=-999999999;" + strings.Repeat("print(x);", 310) + "}",
			"func main() {\n\tx := -999999999\n" + strings.Repeat("\tprint(-999999999)\n", 310) + "}\n", api.OK},
		{"func main(){x:=-999999999;" + strings.Repeat("print(x);", 330) + "}",
			"func main() {\n\tx := -999999999\n" + strings.Repeat("\tprint(-999999999)\n", 330) + "}\n", api.ErrSize},
		{"func f(n int){x:=-1;n=n" + strings.Repeat("+x", 390) + "};func main(){}",
			"func f(n int) {\n\tx := -1\n\tn = n" + strings.Repeat(" + -1", 390) + "\n}\n\nfunc main() {\n}\n", api.OK},
		{"func f(n int){x:=-1;n=n" + strings.Repeat("+x", 400) + "};func main(){}",
			"func f(n int) {\n\tx := -1\n\tn = n" + strings.Repeat(" + -1", 400) + "\n}\n\nfunc main() {\n}\n", api.ErrFull},
		{opened + "x:=9;print(n-(n-x))" + shut,
			nested("func f(q bool, n int)", "x := 9\n"+strings.Repeat("\t", 28)+"print(n - (n - 9))", 27) + "\nfunc main() {\n}\n", api.OK},
		{opened + "x:=-9;print(n-(n-x))" + shut,
			nested("func f(q bool, n int)", "x := -9\n"+strings.Repeat("\t", 28)+"print(n - (n - -9))", 27) + "\nfunc main() {\n}\n", api.ErrDeep},
	} {
		_, ahead := check.Check(x.text)
		got, fault := Fold(x.text)
		_, behind := check.Check(got)
		if ahead.Code != api.OK || fault.Code != api.OK || behind.Code != x.code || got != x.want {
			t.Errorf("%.60q: %v, %v, %v:\n%s", x.text, ahead, fault, behind, got)
		}
	}
}

// TestGreat: P1: programs as great as may be.
func TestGreat(t *testing.T) {
	chain := "if false{print(1)}" + strings.Repeat("else if false{print(1)}", 27)
	stairs := strings.Repeat("if true{", 27)
	for _, x := range []struct{ text, want string }{
		{"func main(){print(1" + strings.Repeat("+1", 590) + ")}", "func main(){print(591)}"},
		{"func main(){print(" + strings.Repeat("-(1+", 14) + "1" + strings.Repeat(")", 14) + ")}", "func main(){print(1)}"},
		{"func main(){" + strings.Repeat("for false{};", 390) + "}", "func main(){}"},
		{"func main(){return;" + strings.Repeat("print(1);", 590) + "}", "func main(){return}"},
		// As deep as can be: each else ahead of an if becomes a block around it.
		{"func main(){" + chain + "else{print(2)}}", "func main(){" + stairs + "if true{print(2)" + strings.Repeat("}", 29)},
		{"func main(){" + chain + "}", "func main(){" + stairs + strings.Repeat("}", 28)},
	} {
		hold(t, x.text, x.want)
	}
}

// TestFaults: Fold answers Check's fault, and nothing else.
func TestFaults(t *testing.T) {
	for _, x := range []struct {
		text string
		code api.Errno
	}{
		{"", api.ErrMain},
		{"func f(){print(1)}", api.ErrMain},
		{"func main(n int){print(n)}", api.ErrMain},
		{strings.Repeat(" ", api.MaxText+1), api.ErrSize},
		{"func main(){print(\xff)}", api.ErrRune},
		{"func main(){print(1+)}", api.ErrSyntax},
		{"func main(){print(1234567890)}", api.ErrSyntax},
		{"func main(){print" + strings.Repeat("(", 40) + "1" + strings.Repeat(")", 40) + "}", api.ErrDeep},
		{"func main(){" + strings.Repeat("print(1);", 600) + "}", api.ErrFull},
		// What would be taken away is checked, too.
		{"func main(){return;print(x)}", api.ErrName},
		{"func main(){if false{x:=1;x:=2}}", api.ErrTwice},
		{"func main(){if false{print(1+true)}}", api.ErrType},
		{"func main(){print(false&&1)}", api.ErrType},
		{"func main(){return;break}", api.ErrType},
		{"func main(){for false{return 1}}", api.ErrCount},
		{"func main(){if true{}else{<-make(chan int,9)}}", api.ErrRange},
	} {
		_, want := check.Check(x.text)
		if want.Code != x.code {
			t.Fatalf("%q: %v", x.text, want)
		}
		if got, fault := Fold(x.text); fault != want || got != "" {
			t.Errorf("%q: %v, not %v; %q", x.text, fault, want, got)
		}
	}
}

// TestAgain: P3: the same is answered again.
func TestAgain(t *testing.T) {
	text := "func f(n int)int{x:=1;y:=2;z:=3;for n>0{if x<y{y=y+1}else{z=x};n=n-1;for z<4{z=z+1}};return x+y*z};func main(){print(f(3)+1*2)}"
	want, _ := Fold(text)
	for range 50 {
		if got, fault := Fold(text); got != want || fault != (api.Fault{}) {
			t.Fatalf("%v: %s, not %s", fault, got, want)
		}
	}
}
