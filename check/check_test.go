package check

import (
	"slices"
	"strings"
	"testing"

	"ravel/api"
	"ravel/syntax"
)

// wantFault holds both faces against a fault; a "^" in the text, which is taken out, tells where.
func wantFault(t *testing.T, marked string, code api.Errno) {
	t.Helper()
	text := strings.Replace(marked, "^", "", 1)
	want := api.Fault{Code: code, At: strings.Index(marked, "^")}
	if want.At < 0 {
		t.Fatalf("%q: no place is told", marked)
	}
	if list, fault := Check(text); fault != want || len(list) != 0 {
		t.Errorf("%q: Check: %v, %q; want %v", marked, fault, list, want)
	}
	if list, fault := Uses(text); fault != want || len(list) != 0 {
		t.Errorf("%q: Uses: %v, %v; want %v", marked, fault, list, want)
	}
}

// wantRight holds that a text is a program that may be, and answers its nodes, types and uses.
func wantRight(t *testing.T, text string) ([]api.Node, []string, []int) {
	t.Helper()
	nodes, fault := syntax.Parse(text)
	texts, checked := Check(text)
	uses, used := Uses(text)
	if fault != (api.Fault{}) || checked != (api.Fault{}) || used != (api.Fault{}) {
		t.Fatalf("%q: Parse: %v, Check: %v, Uses: %v", text, fault, checked, used)
	}
	if len(texts) != len(nodes) || len(uses) != len(nodes) {
		t.Fatalf("%q: %d nodes, %d types, %d uses", text, len(nodes), len(texts), len(uses))
	}
	return nodes, texts, uses
}

// faults holds each text against a fault.
func faults(t *testing.T, code api.Errno, texts ...string) {
	t.Helper()
	for _, text := range texts {
		wantFault(t, text, code)
	}
}

// rights holds that texts are programs that may be.
func rights(t *testing.T, texts ...string) {
	t.Helper()
	for _, text := range texts {
		wantRight(t, text)
	}
}

// inMain puts statements into a program with some of everything.
func inMain(stmts string) string {
	return world + "func main(){" + stmts + "}"
}

// world has decls, and no function main.
const world = `type A struct {n int; b bool; a *A; c chan int; f func(int) bool; i I};
type B struct {n int};
type I interface {m(k int) int};
type J interface {m(k int) int; o()};
type E interface {};
func (a *A) m(k int) int { return k };
func (a *A) o() {};
func (b *B) m(k int) int { return b.n };
func f(n int, b bool) int { return n };
func g() {};
func h(i I, j J) I { return i };
func p() *A { return nil };
func q(f func(int) bool) func(int) bool { return f };
`

func inMainFaults(t *testing.T, code api.Errno, list ...string) {
	t.Helper()
	for _, stmts := range list {
		wantFault(t, inMain(stmts), code)
	}
}

func inMainRights(t *testing.T, list ...string) {
	t.Helper()
	for _, stmts := range list {
		wantRight(t, inMain(stmts))
	}
}

// D1

func TestParseFaultsComeFirst(t *testing.T) {
	full := "func main(){" + strings.Repeat("x();", api.MaxNodes/2) + "}^"
	wantFault(t, "^"+strings.Repeat("x", api.MaxText+1), api.ErrSize)
	wantFault(t, "func main(){print(x)}\n^#", api.ErrRune)
	wantFault(t, "func main(){print(x);^)", api.ErrSyntax)
	wantFault(t, "func main(){print(x)^", api.ErrSyntax)
	wantFault(t, "func main(){x:=y;"+strings.Repeat("f(", api.MaxNest-1)+"f^(", api.ErrDeep)
	wantFault(t, full, api.ErrFull)
}

func TestTypesNames(t *testing.T) {
	faults(t, api.ErrName,
		// No KIface has the name: nobody has, a struct has, a function, a method, a field, a param.
		"func f(a ^I){};func main(){}",
		"type A struct{};func f(a ^A){};func main(){}",
		"func f(a ^main){};func main(){}",
		"type A struct{f int};func (a *A) m(x int){};func f(a ^m){};func main(){}",
		"type A struct{f int};func f(a ^f){};func main(){}",
		"func f(a int, b ^a){};func main(){}",
		// In each place where types stand.
		"type A struct{f ^I};func main(){}",
		"type A interface{m(a ^I)};func main(){}",
		"type A interface{m(a int) ^I};func main(){}",
		"func f() ^I{};func main(){}",
		"func f(a chan ^I){};func main(){}",
		"func f(a func(int, ^I)){};func main(){}",
		"func f(a func(int) chan ^I){};func main(){}",
		"func main(){x:=make(chan ^I)}",
		"func main(){x:=func(a ^I){}}",
		"type I interface{};func f(i I){i.(^K)};func main(){}",
		// No KStruct has the name.
		"func f(a ^*A){};func main(){}",
		"type A interface{};func f(a ^*A){};func main(){}",
		"func f(a ^*main){};func main(){}",
		"type A struct{a ^*B};func main(){}",
		"func (a ^*A) m(){};func main(){}",
		"type I interface{};func (a ^*I) m(){};func main(){}",
		"type I interface{};func f(i I){i.(^*A)};func main(){}",
	)
	rights(t,
		"func f(a I, b *A){};func main(){};type I interface{};type A struct{}",
		"type I interface{m(i I, a *A) I};type A struct{a *A;i chan I};func main(){}",
		"func (a *A) m(){};type A struct{};func main(){}",
	)
}

func TestNamesThatAreThereTwice(t *testing.T) {
	faults(t, api.ErrTwice,
		// Params.
		"func f(a int, ^a bool){};func main(){}",
		"func f(a int, b int, ^a int){};func main(){}",
		"func f(_ int, ^_ int){};func main(){}",
		"type I interface{m(a int, ^a int)};func main(){}",
		"func main(){x:=func(a int, ^a bool){}}",
		"type A struct{};func (a *A) m(b int, ^b int){};func main(){}",
		"type A struct{};func (a *A) m(^a int){};func main(){}",
		"type A struct{};func (a *A) m(b int, ^a *A){};func main(){}",
		// Fields, methods of interfaces.
		"type A struct{a int;^a bool};func main(){}",
		"type A struct{a int;b int;^a *A};func main(){}",
		"type I interface{m();^m()};func main(){}",
		"type I interface{m();n();^m(a int) int};func main(){}",
		// Decls.
		"type A struct{};^type A struct{};func main(){}",
		"type A interface{};^type A interface{};func main(){}",
		"func f(){};^func f(){};func main(){}",
		"type A struct{};^type A interface{};func main(){}",
		"type A interface{};^type A struct{};func main(){}",
		"type A struct{};^func A(){};func main(){}",
		"func A(){};func main(){};^type A struct{}",
		"func A(){};func main(){};^type A interface{}",
		"func main(){};^func main(){}",
		"type main struct{};^func main(){}",
		// ErrTwice ahead of ErrMain.
		"func main(){};^func main(a int){}",
		// Methods.
		"type A struct{};func (a *A) m(){};^func (a *A) m(){};func main(){}",
		"type A struct{};func (a *A) m(){};func (a *A) n(){};^func (b *A) m(c int) int{};func main(){}",
		"type A struct{m int};^func (a *A) m(){};func main(){}",
		"^func (a *A) m(){};func main(){};type A struct{n int;m int}",
		// In blocks.
		"func main(){x:=1;^x:=2}",
		"func main(){x:=1;y:=1;^x:=true}",
		"func main(){if true{x:=1;^x:=2}}",
		"func main(){select{default:x:=1;^x:=2}}",
		"func main(){f:=func(){x:=1;^x:=2}}",
		"func main(){c:=make(chan int);select{case x:=<-c:x:=1;^x:=2}}",
		// Else-cases.
		"func main(){^select{default:default:}}",
		"func main(){c:=make(chan int);^select{default:case <-c:default:default:}}",
	)
	rights(t,
		// A param and what comes back; params of other ones; of a literal within.
		"type a interface{};func f(a int) a {};func g(a int){};func main(){f:=func(a int){g:=func(a bool){}}}",
		"type A struct{};func (a *A) m(b int){};func (b *A) n(a int){};func main(){}",
		// Others' fields and methods; what is known by other ways.
		"type A struct{a int;b int};type B struct{a int;A int};type I interface{a();b()};type J interface{a();J()};func main(){}",
		"type A struct{};type B struct{};func (a *A) m(){};func (a *B) m(){};func (a *A) n(){};func m(){};func main(){}",
		"type A struct{};type B struct{m int};func (a *A) m(){};func (a *A) A(){};func (a *A) main(){};func main(){}",
		"type A struct{f int};func f(f int){};func main(){main:=1;A:=main;f:=A}",
		// Other blocks, other cases, a param.
		"func f(x int){x:=true;if x{x:=1;print(x)}else{x:=2;print(x)};for x{x:=2;print(x)}};func main(){}",
	)
}

func TestFunctionMain(t *testing.T) {
	faults(t, api.ErrMain,
		"^",
		"^func f(){}",
		"^ func f(){}",
		"^\n// a note\n func Main(){};func f(main int){main=1}",
		"^type main struct{}",
		"^type main interface{main()}",
		"^ type A struct{main int};func (a *A) n(){}",
		"^type A struct{};func (a *A) main(){}",
		"^func main(a int){}",
		"func f(){};^func main() int{}",
		"func f(){};^func main(a int, b int) bool{}",
	)
	rights(t, "func main(){}", " func f(a int) int{};func main(){};func g(){}")
}

func TestKNames(t *testing.T) {
	faults(t, api.ErrName,
		"func main(){print(^y)}",
		"func main(){^x=1}",
		"func main(){x:=^x}",
		"func main(){print(^x);x:=1}",
		"func main(){x:=func(){^x()}}",
		"func main(){if true{x:=1};print(^x)}",
		"func main(){if true{x:=1}else{print(^x)}}",
		"func main(){x:=1;f:=func(){y:=x};print(^y)}",
		"func f(a int){};func main(){print(^a)}",
		"func main(){f:=func(a int){};print(^a)}",
		"func main(){if func(a bool)bool{return a}(^a){}}",
		"type A struct{};func (a *A) m(b int){};func main(){print(^b)}",
		"type A struct{};func (a *A) m(){};func main(){b:=^a}",
		"type A struct{};func main(){b:=^A}",
		"type A interface{};func main(){b:=^A}",
		"type A struct{};func (a *A) m(){};func main(){^m()}",
		"type A struct{f int};func (a *A) m(){print(^f)};func main(){}",
		"func main(){c:=make(chan int);select{case x:=<-c:case <-c:print(^x)}}",
		"func main(){c:=make(chan int);select{case x:=<-c:default:print(^x)}}",
		"func main(){c:=make(chan int);select{case x:=<-c:};print(^x)}",
		"func main(){select{case x:=<-^x:}}",
		"func main(){c:=make(chan int);select{case c<-1:x:=1;case c<-2:print(^x)}}",
		"func main(){c:=make(chan int);select{case x:=<-c:case c<-^x:}}",
	)
}

func TestDots(t *testing.T) {
	inMainFaults(t, api.ErrName,
		"a:=new(A);print(a^.x)",
		"a:=new(A);print(a^.k)",
		"a:=new(B);print(a^.b)",
		"a:=new(B);a^.o()",
		"i:=h(nil,nil);i^.o()",
		"i:=h(nil,nil);print(i^.n)",
		"a:=new(A);a.i^.o()",
		"a:=new(A);a^.f0()",
		"a:=new(A);a^.g()",
		"a:=new(A);a^.A=1",
	)
	inMainFaults(t, api.ErrType,
		"print(1^.n)",
		"x:=1;print(x^.n)",
		"print(true^.n)",
		"print(nil^.n)",
		"c:=make(chan int);print(c^.n)",
		"print(f^.n)",
		"print(g()^.n)",
		"f:=func(){};print(f^.n)",
		"a:=new(A);a.m^.n()",
	)
	inMainRights(t,
		"a:=new(A);print(a.n);print(a.b);print(a.a.a.a.n);print(<-a.c);print(a.f(1));print(a.m(1));print(a.i.m(1));a.o()",
		"i:=h(nil,nil);print(i.m(1));p().o();p().a.o();print(p().i.m(1))",
		"x:=new(A).m;y:=p().i.m;print(x(1)+y(2));go p().o()",
	)
	// A function ahead gives back what is not there: the dot is told first, if nothing has the name.
	faults(t, api.ErrName,
		"func main(){print(f()^.x)};func f() *Z{}",
		"func main(){f().m()};func f() ^*Z{};func (z *Z) m(){}",
	)
	faults(t, api.ErrType, "func main(){f()^.m()};func f() Z{}")
}

// Where several decls of one kind have a name, a type of this name has what each of them says; the second one is told where it stands.
func TestDotsOfTypesThatAreThereTwice(t *testing.T) {
	faults(t, api.ErrTwice,
		"func f(x I){x.B()};type I interface{A()};^type I interface{B()};func main(){}",
		"type I interface{A()};func f(x I){x.B();x.A()};^type I interface{B()};func main(){}",
		"func f(x I){x.C(1)};type I interface{};^type I interface{B()};type I interface{C(a int)};func main(){}",
		"func f(x I){print(x.B(x.A)+1)};type I interface{A()};^type I interface{B(f func()) int};func main(){}",
		"func f(x *A){x.i.B()};type A struct{i I};type I interface{A()};^type I interface{B()};func main(){}",
		"func f(x I){go x.B()};type I interface{};func main(){};^type I interface{B()}",
		// A struct of the same name is another type.
		"func f(x I){x.B()};type I struct{A int};^type I interface{B()};func main(){}",
		"func f(x *I){x.A=1};type I interface{B()};^type I struct{A int};func main(){}",
		// Fields, and methods of a struct.
		"func f(x *A){x.b=true;x.a=1};type A struct{a int};^type A struct{b bool};func main(){}",
		"type A struct{a int};func f(x *A){print(x.c)};^type A struct{b bool};type A struct{c int};func main(){}",
		"func f(x *A){x.m()};type A struct{};^type A struct{b bool};func (a *A) m(){};func main(){}",
		"type A struct{};^func (a *A) m(){};type A struct{m int};func main(){}",
		// Of several members of one name it is the first.
		"func f(x I){x.B()};type I interface{B()};^type I interface{B(a int)};func main(){}",
		"func f(x I){x.B(1)};type I interface{B(a int)};^type I interface{B()};func main(){}",
		"func f(x I){x.B(1)};type I interface{B(a int);^B()};func main(){}",
		"func f(x *A){x.b=1};type A struct{b int};^type A struct{b bool};func main(){}",
		"func f(x *A){x.m(1)};type A struct{};func (a *A) m(b int){};^func (a *A) m(){};func main(){}",
	)
	faults(t, api.ErrName,
		"func f(x I){x^.C()};type I interface{A()};type I interface{B()};func main(){}",
		"func f(x I){x^.A()};type I struct{A func()};type I interface{B()};func main(){}",
		"func f(x *I){x^.B()};type I struct{A func()};type I interface{B()};func main(){}",
		"func f(x I){x^.B()};type I interface{A()};type J interface{B()};type I interface{C()};func main(){}",
		"func f(x *A){x^.c=1};type A struct{a int};type A struct{b bool};func main(){}",
	)
	faults(t, api.ErrCount, "func f(x I){x.B^(1)};type I interface{A()};type I interface{B()};func main(){}")
	faults(t, api.ErrType,
		"func f(x I){x.B^(true)};type I interface{A()};type I interface{B(a int)};func main(){}",
		"func f(x I){^x.B=nil};type I interface{A()};type I interface{B()};func main(){}",
		"func f(x *A){^x.b=1};type A struct{a int};type A struct{b bool};func main(){}",
		// What fits has all of it, too.
		"func f(x I,a *A){^x=a};type A struct{};func (a *A) A(){};type I interface{A()};type I interface{B()};func main(){}",
	)
}

func TestCalls(t *testing.T) {
	inMainFaults(t, api.ErrType,
		"1^()",
		"x:=1;x^()",
		"nil^()",
		"g()^()",
		"a:=new(A);a^()",
		"c:=make(chan func());c^()",
		"print(f^(true,true))",
		"print(f^(1,1))",
		"print(f^(g(),true))",
		"print(f^(1,nil))",
		"h^(new(B),new(B))",
		"h^(1,nil)",
		"h^(h,nil)",
		"q^(f)",
		"x:=new(A).m^(true)",
		// What is called is told ahead of the count.
		"1^(1)",
		"x:=true;x^(1,2)",
	)
	inMainFaults(t, api.ErrCount,
		"main^(1)",
		"g^(1)",
		"g^(g())",
		"f^()",
		"f^(1)",
		"f^(1,true,1)",
		"new(A).m^()",
		"new(A).m^(new(A),1)",
		"p().f^(1,2)",
		"func(){}^(1)",
		"func(a int,b int){}^(1)",
		// The count is told ahead of a type.
		"f^(true)",
		"g^(nil)",
	)
	inMainRights(t,
		"print(f(1,true));g();h(nil,nil);h(new(A),new(A));h(new(B),new(A));h(h(nil,nil),p())",
		"q(nil);q(func(n int)bool{return true});print(q(q(nil))(1))",
		"print(func(f func(int,bool)int,g func())int{g();return f(1,true)}(f,g))",
	)
}

func TestAsserts(t *testing.T) {
	inMainFaults(t, api.ErrType,
		"x:=p()^.(*A)",
		"x:=1^.(*A)",
		"x:=nil^.(*A)",
		"x:=g()^.(*A)",
		"x:=f^.(*A)",
		"x:=h(nil,nil)^.(I)",
		"x:=h(nil,nil)^.(J)",
		"x:=h(nil,nil)^.(int)",
		"x:=h(nil,nil)^.(chan *A)",
		"x:=h(nil,nil)^.(func())",
		"f:=func(j J){x:=j^.(*B)}",
	)
	inMainRights(t,
		"i:=h(nil,nil);x:=i.(*A);y:=i.(*B);print(i.(*A).n+i.(*B).n);x=p()",
		"f:=func(j J,e E){x:=j.(*A);y:=e.(*B)}",
	)
}

func TestNewsAndMakes(t *testing.T) {
	inMainFaults(t, api.ErrName, "x:=^new(Z)", "x:=^new(I)", "x:=^new(main)", "x:=1;y:=^new(x)")
	inMainFaults(t, api.ErrRange, "x:=^make(chan int,9)", "x:=^make(chan I,100)")
	inMainRights(t, "x:=new(A)", "x:=make(chan int)", "x:=make(chan int,0)", "x:=make(chan int,8)")
}

func TestOnes(t *testing.T) {
	inMainFaults(t, api.ErrType,
		"x:=^!1", "x:=^!nil", "x:=^!g()", "x:=^!f", "x:=^!p()", "x:=!^!1",
		"x:=^-true", "x:=^-nil", "x:=^-g()", "x:=^-g", "x:=-^-false", "x:=^-p()",
		"x:=^<-1", "x:=^<-nil", "x:=^<-g()", "x:=^<-f", "x:=^<-p()", "x:=^<-<-make(chan int)",
	)
	inMainRights(t, "x:=!true;y:=!!x;z:=!(1<2)", "x:=-1;y:=--x;z:=-f(1,true)", "x:=<-make(chan int);y:=<-<-make(chan chan int);z:=<-p().c")
}

func TestBinaries(t *testing.T) {
	for _, sign := range []string{"+", "-", "*", "/", "%", "<", "<=", ">", ">="} {
		inMainRights(t, "x:=1"+sign+"2;y:=f(1,true)"+sign+"p().n")
		for _, sides := range [][2]string{{"1", "true"}, {"true", "1"}, {"true", "false"}, {"1", "nil"}, {"nil", "nil"}, {"g()", "1"}, {"1", "g()"}, {"g()", "g()"}, {"p()", "p()"}, {"f", "f"}, {"new(A).c", "new(A).c"}} {
			inMainFaults(t, api.ErrType, "x:="+sides[0]+"^"+sign+sides[1])
		}
	}
	for _, sign := range []string{"&&", "||"} {
		inMainRights(t, "x:=true"+sign+"false;y:=p().b"+sign+"1<2")
		for _, sides := range [][2]string{{"1", "true"}, {"true", "1"}, {"1", "1"}, {"true", "nil"}, {"nil", "nil"}, {"g()", "true"}, {"g()", "g()"}, {"p()", "p()"}, {"f", "f"}} {
			inMainFaults(t, api.ErrType, "x:="+sides[0]+"^"+sign+sides[1])
		}
	}
	for _, sign := range []string{"==", "!="} {
		for _, sides := range [][2]string{
			{"1", "2"}, {"true", "false"}, {"p()", "new(A)"}, {"p()", "nil"}, {"make(chan int)", "p().c"}, {"make(chan int)", "nil"}, {"f", "nil"}, {"p().f", "nil"}, {"func(){}", "nil"}, {"p().m", "nil"},
			{"p().i", "nil"}, {"p().i", "p().i"}, {"p().i", "p()"}, {"p().i", "new(B)"}, {"h(nil,nil)", "p().i"},
		} {
			inMainRights(t, "x:="+sides[0]+sign+sides[1], "x:="+sides[1]+sign+sides[0], "k:=func(i I,j J,e E){x:=i"+sign+"j;y:=j"+sign+"i;z:=e"+sign+"i}")
		}
		for _, sides := range [][2]string{
			{"1", "true"}, {"1", "nil"}, {"true", "nil"}, {"nil", "nil"}, {"g()", "g()"}, {"g()", "nil"}, {"g()", "1"}, {"p()", "new(B)"}, {"p()", "1"}, {"make(chan int)", "make(chan bool)"}, {"make(chan int)", "p()"},
			{"f", "f"}, {"g", "main"}, {"func(){}", "func(){}"}, {"p().m", "p().m"}, {"f", "1"}, {"f", "g()"}, {"p().i", "1"}, {"p().i", "f"}, {"p().i", "make(chan I)"},
		} {
			inMainFaults(t, api.ErrType, "x:="+sides[0]+"^"+sign+sides[1], "x:="+sides[1]+"^"+sign+sides[0])
		}
		inMainFaults(t, api.ErrType, "k:=func(j J,b *B){x:=j^"+sign+"b}", "k:=func(j J,b *B){x:=b^"+sign+"j}")
	}
}

func TestDefines(t *testing.T) {
	inMainFaults(t, api.ErrType, "^x:=nil", "^x:=g()", "^x:=func(){}()",
		// ErrType ahead of ErrTwice.
		"x:=1;^x:=nil", "x:=1;^x:=g()")
	inMainRights(t, "x:=1", "x:=g", "x:=p()", "x:=func(){}", "x:=f(1,true)")
}

func TestAssigns(t *testing.T) {
	inMainFaults(t, api.ErrType,
		"^1=1", "^nil=nil", "^true=true", "^f(1,true)=1", "^<-p().c=1", "^p()=nil", "^g()=g()", "^new(A)=p()", "^-1=1", "^1+1=2", "^func(){}=nil", "x:=h(nil,nil);^x.(*A)=nil",
		"^f=f", "^f=nil", "^main=nil", "x:=new(A);^x.m=x.m", "x:=new(A);^x.i.m=nil", "x:=new(A);^x.o=nil",
		"x:=1;^x=true", "x:=1;^x=nil", "x:=1;^x=g()", "x:=true;^x=1", "x:=p();^x=new(B)", "x:=p();^x=h(nil,nil)", "x:=p();^x.n=true", "x:=p();^x.i=1", "x:=p();^x.c=make(chan bool)", "x:=g;^x=f",
		"k:=func(j J){^j=new(B)}", "k:=func(i I,j J){^j=i}",
		"c:=make(chan int);select{case x:=<-c:^x=true}",
	)
	inMainRights(t,
		"x:=1;x=2;y:=true;y=x==1;z:=p();z=nil;z=new(A);z.n=x;z.a=z;z.a.a.b=y;z.i=nil;z.i=z;z.i=new(B);z.c=nil;z.f=nil;p().n=1",
		"x:=g;x=g;x=main;x=nil;x=func(){}",
		"k:=func(i I,j J,e E,n int){i=j;e=i;e=j;j=p();n=1;i=nil}",
		"c:=make(chan int);select{case x:=<-c:x=1}",
		"f:=1;f=2;main:=true;main=false",
	)
}

func TestChannels(t *testing.T) {
	inMainFaults(t, api.ErrType,
		"^1<-1", "^nil<-1", "^g()<-1", "^p()<-1", "^f<-1", "c:=make(chan int);^c<-true", "c:=make(chan int);^c<-nil", "c:=make(chan int);^c<-g()", "c:=make(chan I);^c<-1", "c:=make(chan J);^c<-new(B)", "c:=make(chan chan int);^c<-make(chan bool)",
		"select{^case 1<-1:}", "select{^case nil<-1:}", "c:=make(chan int);select{^case c<-true:}", "c:=make(chan int);select{^case c<-g():}", "c:=make(chan J);select{^case c<-new(B):}",
		"select{^case <-1:}", "select{^case <-nil:}", "select{^case <-g():}", "select{^case <-p():}", "select{^case x:=<-1:}", "select{^case x:=<-f:}",
		"^close(1)", "^close(nil)", "^close(g())", "^close(p())", "^close(f)",
		// Within the case the name is there, of no type; and it is told there, ahead of the case.
		"select{case x:=<-1:^print(x)}", "select{case x:=<-p():^y:=x}", "select{case x:=<-g():y:=x^==x}", "select{case x:=<-g():print(x^.n)}", "select{case x:=<-nil:x^()}",
		"select{^case x:=<-1:x=g()}", "select{^case x:=<-1:x=x}", "select{case x:=<-1:^x=1}",
	)
	inMainRights(t,
		"c:=make(chan int);c<-1;c<- <-c;close(c);close(p().c);p().c<-1",
		"c:=make(chan I);c<-nil;c<-p();c<-new(B);c<- <-c",
		"c:=make(chan int);select{case c<-1:case <-c:case x:=<-c:print(x);c<-x;case c<- <-c:default:};select{}",
		"c:=make(chan I);select{case c<-nil:case c<-new(B):case i:=<-c:print(i.m(1))}",
	)
}

func TestOtherStatements(t *testing.T) {
	inMainFaults(t, api.ErrType,
		"^1", "^nil", "^f", "^!true", "^1+1", "^p().n", "^new(A)", "^make(chan int)", "^func(){}", "^h(nil,nil).(*A)", "x:=1;^x",
		"^go 1", "^go <-p().c", "^go g", "^go func(){}", "^go p().o", "^go -f(1,true)",
		"^panic(true)", "^panic(nil)", "^panic(g())", "^panic(p())", "^panic(f)",
		"^print(nil)", "^print(g())", "^print(p())", "^print(f)", "^print(make(chan int))", "^print(h(nil,nil))",
		"^if 1{}", "^if nil{}", "^if g(){}", "^if p(){}", "if true{}else ^if 1{}", "^if 1{}else{}",
		"^for 1{}", "^for nil{}", "^for g(){}", "^for f{}",
	)
	inMainRights(t,
		"g();f(1,true);<-p().c;func(){}();p().m(1);p().o()",
		"go g();go f(1,true);go func(){}();go p().o();go func(n int)int{return n}(1)",
		"panic(1);panic(f(1,true));print(1);print(true);print(1<2);print(p().n)",
		"if true{}else if 1<2{}else{};for p().b{};for true{break}",
	)
}

func TestReturns(t *testing.T) {
	faults(t, api.ErrCount,
		"func main(){^return 1}",
		"func main(){^return nil}",
		"func main(){^return main()}",
		"func f() int{^return};func main(){}",
		"func f() int{if true{for true{^return}}};func main(){}",
		"func f() int{g:=func(){^return 1}};func main(){}",
		"func main(){g:=func()int{^return}}",
		"type A struct{};func (a *A) m(){^return a};func main(){}",
		"type A struct{};func (a *A) m(b int) *A{^return};func main(){}",
		"func f(a int){^return a};func main(){}",
	)
	faults(t, api.ErrType,
		"func f() int{^return true};func main(){}",
		"func f() int{^return nil};func main(){}",
		"func f() int{^return main()};func main(){}",
		"func f() int{g:=func()bool{^return 1}};func main(){}",
		"func f(a int) bool{^return a};func main(){}",
		"type A struct{};type I interface{m()};func (a *A) m(b int) I{^return a};func main(){}",
	)
	rights(t,
		"func f() int{};func g() bool{if true{return true};f()};func main(){return}",
		"func f() int{g:=func()bool{return true};h:=func(){return};return 1};func main(){}",
		"type A struct{};type I interface{m() I};func (a *A) m() I{if true{return nil};return a};func main(){select{default:return}}",
	)
}

func TestBreaks(t *testing.T) {
	faults(t, api.ErrType,
		"func main(){^break}",
		"func main(){if true{^break}}",
		"func main(){for true{};^break}",
		"func main(){select{default:^break}}",
		"func main(){for true{f:=func(){^break}}}",
		"func main(){for func()bool{^break}(){}}",
		"type A struct{};func (a *A) m(){^break};func main(){}",
	)
	rights(t,
		"func main(){for true{break}}",
		"func main(){for true{if true{select{default:break}}else{break}}}",
		"func main(){for true{for true{};break}}",
		"func main(){f:=func(){for true{break}}}",
	)
}

// The first node by its number is told, not by its place; of one node what is named first.
func TestFirstFault(t *testing.T) {
	for text, code := range map[string]api.Errno{
		"func f(a ^I, b *A){};func g(){};func g(){}":                                      api.ErrName,
		"func main(a int){print(^x)}":                                                     api.ErrName,
		"func f(a int, ^a int){print(x)}":                                                 api.ErrTwice,
		"func f(a int, a ^Z){}":                                                           api.ErrName,
		"type A struct{a int;a ^Z}":                                                       api.ErrName,
		"type I interface{m();m(a ^Z)}":                                                   api.ErrName,
		"func main(){if 1{print(^x)}}":                                                    api.ErrName,
		"func main(){for 1{^panic(true)}}":                                                api.ErrType,
		"func main(){select{default:default:print(^x)}}":                                  api.ErrName,
		"func main(){select{case <-1:^return 1}}":                                         api.ErrCount,
		"func main(){1(^x)}":                                                              api.ErrName,
		"func main(){x:=true+1^.y}":                                                       api.ErrType,
		"func main(){x:=(true^+1).y}":                                                     api.ErrType,
		"func main(){x:=1;x:=^y}":                                                         api.ErrName,
		"func main(){x:=1;x:=func(){^break}}":                                             api.ErrType,
		"func main(){^y=true+1}":                                                          api.ErrName,
		"func main(){go make(chan ^I,9)}":                                                 api.ErrName,
		"func main(){go ^make(chan int,9)}":                                               api.ErrRange,
		"func f(){print(main^(true))};func main(a int){}":                                 api.ErrType,
		"func f(){};func f(a int){print(^x)}":                                             api.ErrName,
		"type A struct{};func (a *A) m(){};func (a *A) m(){print(^x)}":                    api.ErrName,
		"func f(){print(f^(1))};func main(){}":                                            api.ErrCount,
		"func main(){x:=1;f:=func(x bool){^x=1};x=true}":                                  api.ErrType,
		"func main(){x:=1;if true{x:=true;x=false};^x=true}":                              api.ErrType,
		"func main(){c:=make(chan bool);x:=1;select{case x:=<-c:x=true;default:^x=true}}": api.ErrType,
	} {
		wantFault(t, text, code)
	}
}

// D2

func TestTypesOfExpressions(t *testing.T) {
	for expr, want := range map[string]string{
		"1": "int", "true": "bool", "false": "bool", "(1)": "int",
		"f": "func(int,bool) int", "g": "func()", "h": "func(I,J) I", "main": "func()", "p": "func() *A", "q": "func(func(int) bool) func(int) bool",
		"f(1,true)": "int", "h(nil,nil)": "I", "p()": "*A", "q(nil)": "func(int) bool", "q(nil)(1)": "bool",
		"p().n": "int", "p().b": "bool", "p().a": "*A", "p().c": "chan int", "p().f": "func(int) bool", "p().i": "I", "p().m": "func(int) int", "p().o": "func()", "p().i.m": "func(int) int", "p().m(1)": "int",
		"h(nil,nil).(*A)": "*A", "h(nil,nil).(*B)": "*B",
		"func(){}": "func()", "func(a int,b *A)chan I{}": "func(int,*A) chan I", "func(a func(int,bool)func()){}": "func(func(int,bool) func())", "func()int{}()": "int",
		"new(A)": "*A", "new(B)": "*B", "make(chan int)": "chan int", "make(chan chan func(),3)": "chan chan func()", "make(chan func(int,int)int)": "chan func(int,int) int",
		"!true": "bool", "-1": "int", "<-p().c": "int", "<-make(chan chan *A)": "chan *A",
		"1+1": "int", "1-1": "int", "1*1": "int", "1/1": "int", "1%1": "int", "1<1": "bool", "1<=1": "bool", "1>1": "bool", "1>=1": "bool", "true&&true": "bool", "true||true": "bool", "1==1": "bool", "p()!=nil": "bool",
		"func(f func(func(int,bool)int,chan func(),I)func()bool)func()bool{return f(nil,nil,nil)}(nil)": "func() bool",
	} {
		nodes, texts, _ := wantRight(t, inMain("x:="+expr))
		define := slices.IndexFunc(nodes, func(n api.Node) bool { return n.Kind == api.KDefine && n.Text == "x" })
		if got := texts[nodes[define].Kids[0]]; got != want {
			t.Errorf("%q: %q, want %q", expr, got, want)
		}
	}
}

func TestTypesOfEachNode(t *testing.T) {
	for _, x := range []struct {
		text string
		want []string
	}{
		{"func main(){}", []string{"func()", "", "", ""}},
		{"func main(){main()}", []string{"func()", "func()", "", "", "", "", ""}},
		{"type A struct{a int};func (a *A) m(b bool) I{return a};type I interface{};func main(){}", []string{"int", "", "", "*A", "", "bool", "", "I", "func(bool) I", "*A", "", "", "", "", "func()", "", "", ""}},
		{"func main(){print(1+2*3)}", []string{"func()", "int", "int", "int", "int", "int", "", "", "", ""}},
		{"func main(){x:=make(chan bool,2);x<-!true;if <-x{panic(-1)}}", []string{"func()", "bool", "chan bool", "", "chan bool", "bool", "bool", "", "chan bool", "bool", "int", "int", "", "", "", "", "", ""}},
		{"func main(){f:=func(n int)*A{return nil};print(f(1)==nil)};type A struct{}", []string{"func()", "int", "", "*A", "func(int) *A", "nil", "", "", "func(int) *A", "", "func(int) *A", "int", "*A", "nil", "bool", "", "", "", "", ""}},
		{"func main(){c:=make(chan int);select{case x:=<-c:print(x);case c<-1:default:break0()}};func break0(){}", []string{"func()", "int", "chan int", "", "chan int", "int", "", "", "", "chan int", "int", "", "", "func()", "", "", "", "", "", "", "", "func()", "", "", ""}},
	} {
		if _, texts, _ := wantRight(t, x.text); !slices.Equal(texts, x.want) {
			t.Errorf("%q: %q, want %q", x.text, texts, x.want)
		}
	}
}

// D3

// wantUses holds each name of a program against what it is of, by marks (see unmark).
func wantUses(t *testing.T, marked string) {
	t.Helper()
	text, givers, users := unmark(marked)
	nodes, _, uses := wantRight(t, text)
	for number, n := range nodes {
		want := -1
		if n.Kind == api.KName {
			mark, is := users[n.At]
			if !is {
				t.Fatalf("%q: the name at %d is not marked", marked, n.At)
			}
			delete(users, n.At)
			want = slices.IndexFunc(nodes, func(giver api.Node) bool {
				at, is := givers[mark]
				kinds := []int{api.KDefine, api.KCaseRecv, api.KParam, api.KFunc}
				return is && giver.At == at && slices.Contains(kinds, giver.Kind)
			})
		}
		if uses[number] != want {
			t.Errorf("%q: node %d is of %d, want %d", marked, number, uses[number], want)
		}
	}
	if len(users) > 0 {
		t.Errorf("%q: no names at %v", marked, users)
	}
}

// unmark takes marks out of a text: "0$" ahead of what gives a name, "0@" ahead of a name that is of it.
func unmark(marked string) (text string, givers map[byte]int, users map[int]byte) {
	givers, users = map[byte]int{}, map[int]byte{}
	for len(marked) > 0 {
		if len(marked) > 1 && marked[1] == '$' {
			givers[marked[0]] = len(text)
			marked = marked[2:]
			continue
		}
		if len(marked) > 1 && marked[1] == '@' {
			users[len(text)] = marked[0]
			marked = marked[2:]
			continue
		}
		text += marked[:1]
		marked = marked[1:]
	}
	return text, givers, users
}

func TestUses(t *testing.T) {
	for _, text := range []string{
		"func main(){}",
		"func main(){1$x:=1;print(1@x)}",
		"1$func main(){2$x:=1;print(2@x);1@main()}",
		// The nearest one in the same block and around.
		"func main(){1$x:=1;if true{print(1@x);2$x:=2;print(2@x);if true{3$x:=2@x;print(3@x)};print(2@x)};print(1@x)}",
		"func main(){1$x:=1;if true{2$x:=true;2@x=true}else{3$x:=1@x;print(3@x)};1@x=1@x}",
		"func main(){1$x:=1;for 1@x<2{2$x:=1@x+1;print(2@x)};print(1@x)}",
		// Not in its own value.
		"func main(){1$x:=1;if true{2$x:=func()int{return 1@x};print(2@x())}}",
		"func main(){1$x:=func()int{2$x:=1;return 2@x};print(1@x())}",
		// Params.
		"func f(1$a int,2$b int){print(1@a);print(2@b);3$a:=1@a;print(3@a);if true{4$b:=3@a+2@b;print(4@b)}};func main(){}",
		"func main(){1$a:=1;2$f:=func(3$a int,4$b int)int{5$g:=func(6$b int){print(3@a+6@b)};return 3@a+4@b};print(2@f(1@a,1))}",
		"type A struct{};func (1$a *A) m(2$b int) int{3$c:=1@a;3@c=nil;4$a:=2@b;return 4@a};func main(){}",
		"type A struct{a int};func (1$a *A) m(2$b *A){print(1@a.a);3$a:=2@b.a;2@b.a=3@a};func main(){}",
		// Cases: around their blocks, not in their channels.
		"func main(){1$x:=make(chan int);select{2$case x:=<-1@x:print(2@x);3$x:=2@x;print(3@x);case 1@x<-1:close(1@x);default:close(1@x)};close(1@x)}",
		"func main(){1$x:=make(chan int);select{2$case x:=<-1@x:select{3$case x:=<-make(chan bool):if 3@x{};case <-make(chan int):print(2@x)};print(2@x)}}",
		"func main(){1$x:=make(chan int);select{case <-1@x:print(<-1@x)}}",
		"func main(){1$c:=make(chan int);select{2$case x:=<-1@c:3$f:=func(4$x bool){if 4@x{}};3@f(2@x==1)}}",
		// Functions, later ones and itself, are around all; each name there else is nearer.
		"1$func f(){1@f();2@g()};2$func g(){1@f();3$f:=2@g;3@f()};func main(){4$g:=1@f;5$f:=4@g;5@f()}",
		"1$func f(2$f int) int{return 2@f};func main(){print(1@f(1));3$f:=1@f;print(3@f(2))}",
		// Types, fields and methods have no such names.
		"type A struct{x int};func (1$a *A) f() int{return 2@f()+1@a.f()+1@a.x};2$func f() int{};func main(){}",
		"type A struct{};func main(){1$A:=new(A);2$I:=1@A;2@I=1@A};type I interface{}",
	} {
		wantUses(t, text)
	}
}

// The function, method or literal that is nearest around a node; of these themselves what is around them.
func TestFunctions(t *testing.T) {
	// nodes: 0 struct, 1 pointer, 2 param, 3 sig, 4 block, 5 method, 6 sig, 7 sig, 8 number, 9 print, 10 block, 11 literal, 12 define, 13 block, 14 func
	program, fault := Read("type A struct{};func(a *A)m(){};func main(){f:=func(){print(1)}}")
	want := []int{-1, 5, 5, 5, 5, -1, 14, 11, 11, 11, 11, 14, 14, 14, -1, -1}
	if got := program.Functions(); fault.Code != api.OK || !slices.Equal(got, want) {
		t.Error(got, fault)
	}
	if got := (Program{}).Functions(); len(got) > 0 {
		t.Error(got)
	}
}

// What comes out is new memory each time.
func TestAnswersAreNew(t *testing.T) {
	text := inMain("x:=1;print(x)")
	texts, _ := Check(text)
	uses, _ := Uses(text)
	firstTexts, firstUses := slices.Clone(texts), slices.Clone(uses)
	for i := range texts {
		texts[i], uses[i] = "?", -7
	}
	againTexts, _ := Check(text)
	againUses, _ := Uses(text)
	if !slices.Equal(againTexts, firstTexts) || !slices.Equal(againUses, firstUses) {
		t.Error("what was answered is kept")
	}
}
