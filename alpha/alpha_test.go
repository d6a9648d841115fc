package alpha

import (
	"fmt"
	"reflect"
	"regexp"
	"slices"
	"strconv"
	"strings"
	"testing"

	"ravel/api"
	"ravel/check"
	"ravel/run"
	"ravel/syntax"
)

// hold holds what Text answers of a program, and that it is the same program, has the same nodes, and runs the same. What is wanted need not be in the one form.
func hold(t *testing.T, text, want string) {
	t.Helper()
	form, wrong := syntax.Print(want)
	got, fault := Text(text)
	if wrong.Code != api.OK || fault != (api.Fault{}) || got != form {
		t.Errorf("%q: %v, %v:\n%snot\n%s", text, fault, wrong, got, form)
		return
	}
	if is, fault := Same(text, got); !is || fault.Code != api.OK {
		t.Errorf("%q is not the same: %v", text, fault)
	}
	holdNodes(t, text, got)
	for _, script := range [][]int{nil, {1, 1, 1, 1, 1, 1}, {0, 1, 0, 2, 1, 0, 3}} {
		holdRuns(t, text, got, script)
	}
}

// holdNodes holds that two programs that may be have the same nodes, but for where they stand, and for names.
func holdNodes(t *testing.T, text, other string) {
	t.Helper()
	first, one := check.Read(text)
	second, two := check.Read(other)
	for _, nodes := range [][]api.Node{first.Nodes, second.Nodes} {
		for i := range nodes {
			nodes[i].At = 0
			if slices.Contains([]int{api.KDefine, api.KCaseRecv, api.KParam, api.KName}, nodes[i].Kind) && nodes[i].Text != "" {
				nodes[i].Text = "name"
			}
		}
	}
	if one.Code+two.Code != api.OK || !reflect.DeepEqual(first.Nodes, second.Nodes) || !slices.Equal(first.Uses, second.Uses) || !slices.Equal(first.Texts, second.Texts) {
		t.Errorf("%q: %v, %v: other nodes:\n%v, not\n%v", text, one, two, second.Nodes, first.Nodes)
	}
}

// holdRuns holds that two programs run just the same, also as to nodes.
func holdRuns(t *testing.T, text, other string, script []int) {
	t.Helper()
	first, one := run.Run(text, script)
	second, two := run.Run(other, script)
	if one.Code+two.Code != api.OK || !reflect.DeepEqual(first, second) {
		t.Errorf("%q, by %v: %v, %v\n%v, not\n%v", text, script, one, two, second, first)
	}
}

// TestExample: the text itself, to the byte.
func TestExample(t *testing.T) {
	for _, x := range []struct{ text, want string }{
		{"func main(){}", "func main() {\n}\n"},
		{"func main(){x:=1;print(x)}", "func main() {\n\t_0 := 1\n\tprint(_0)\n}\n"},
		{"func _f(a int) int {return a};func main(){x:=_f(1);print(x)}", "func _f(__0 int) int {\n\treturn __0\n}\n\nfunc main() {\n\t__1 := _f(1)\n\tprint(__1)\n}\n"},
		{"type A struct{x int};func(a *A)m(b int){a.x=b}\nfunc main(){c:=make(chan int,1);select{case x:=<-c:print(x)\ndefault:}}// nothing",
			"type A struct {\n\tx int\n}\n\nfunc (_0 *A) m(_1 int) {\n\t_0.x = _1\n}\n\nfunc main() {\n\t_2 := make(chan int, 1)\n\tselect {\n\tcase _3 := <-_2:\n\t\tprint(_3)\n\tdefault:\n\t}\n}\n"},
	} {
		if got, fault := Text(x.text); got != x.want || fault != (api.Fault{}) {
			t.Errorf("%q: %q, %v, not %q", x.text, got, fault, x.want)
		}
	}
}

// TestVariables: W1: all kinds of variables, and all their names, wherever these stand.
func TestVariables(t *testing.T) {
	hold(t, "func main(){x:=1;x=x+2;print(x)}", "func main(){_0:=1;_0=_0+2;print(_0)}")
	hold(t, "func f(a int,b bool){if b{print(a)}};func main(){f(1,true)}", "func f(_0 int,_1 bool){if _1{print(_0)}};func main(){f(1,true)}")
	hold(t, "type A struct{k int};func(a *A)m(b int)*A{a.k=b;return a};func main(){print(new(A).m(1).k)}", "type A struct{k int};func(_0 *A)m(_1 int)*A{_0.k=_1;return _0};func main(){print(new(A).m(1).k)}")
	hold(t, "func main(){print(func(a int,b int)int{return a-b}(3,1))}", "func main(){print(func(_0 int,_1 int)int{return _0-_1}(3,1))}")
	hold(t, "func main(){c:=make(chan int,2);select{case c<-1:};select{case x:=<-c:x=x+1;print(x)}}", "func main(){_0:=make(chan int,2);select{case _0<-1:};select{case _1:=<-_0:_1=_1+1;print(_1)}}")
	// A case without a name is none.
	hold(t, "func main(){c:=make(chan int,1);c<-1;select{case <-c:d:=2;print(d)};e:=3}", "func main(){_0:=make(chan int,1);_0<-1;select{case <-_0:_1:=2;print(_1)};_2:=3}")
	// Those that nobody uses.
	hold(t, "func f(a int)int{b:=1};func main(){c:=make(chan int,1);close(c);select{case d:=<-c:}}", "func f(_0 int)int{_1:=1};func main(){_2:=make(chan int,1);close(_2);select{case _3:=<-_2:}}")
	// In all statements and expressions.
	hold(t, "type I interface{m()};type A struct{k int};func(a *A)m(){};func f(b bool,i I,n int,c chan int,g func(int)int)int{if b&&!b{n=-n}else if b{n=n/2}else{c<-n;<-c};for n<0{n=g(n)*n};go g(n);close(c);i.m();i.(*A).k=n;h:=i.m;h();print(<-c);if n>0{panic(n)};return n};func main(){c:=make(chan int,2);f(true,new(A),-3,c,func(n int)int{return -n});print(f(false,new(A),0,c,nil))}",
		"type I interface{m()};type A struct{k int};func(_0 *A)m(){};func f(_1 bool,_2 I,_3 int,_4 chan int,_5 func(int)int)int{if _1&&!_1{_3=-_3}else if _1{_3=_3/2}else{_4<-_3;<-_4};for _3<0{_3=_5(_3)*_3};go _5(_3);close(_4);_2.m();_2.(*A).k=_3;_6:=_2.m;_6();print(<-_4);if _3>0{panic(_3)};return _3};func main(){_7:=make(chan int,2);f(true,new(A),-3,_7,func(_8 int)int{return -_8});print(f(false,new(A),0,_7,nil))}")
	// Also where nobody comes.
	hold(t, "func f(a int){return;b:=a;print(b)};func main(){}", "func f(_0 int){return;_1:=_0;print(_1)};func main(){}")
}

// TestOthers: W1: what is no variable keeps its name.
func TestOthers(t *testing.T) {
	// The params of an interface's methods are none, also if a variable is called so.
	hold(t, "type I interface{m(a int,b bool)int;n(a I)};func main(){a:=1;print(a)}", "type I interface{m(a int,b bool)int;n(a I)};func main(){_0:=1;print(_0)}")
	hold(t, "type I interface{m(a int)};type A struct{};func(a *A)m(b int){print(b)};func f(i I){i.m(1)};func main(){f(new(A))}", "type I interface{m(a int)};type A struct{};func(_0 *A)m(_1 int){print(_1)};func f(_2 I){_2.m(1)};func main(){f(new(A))}")
	// Nor are functions, fields, methods, structs, interfaces, of the same names.
	hold(t, "func f(f int){print(f)};func g(){};func main(){g();g:=f;g(1);f(2);main:=3;print(main)}", "func f(_0 int){print(_0)};func g(){};func main(){g();_1:=f;_1(1);f(2);_2:=3;print(_2)}")
	hold(t, "type a struct{a *a;b int};func(a *a)m(b int)int{a.a=a;return a.a.b+b};func main(){a:=new(a);m:=a.m;print(m(a.m(a.b)))}", "type a struct{a *a;b int};func(_0 *a)m(_1 int)int{_0.a=_0;return _0.a.b+_1};func main(){_2:=new(a);_3:=_2.m;print(_3(_2.m(_2.b)))}")
	hold(t, "type I interface{I()I};type A struct{};func(I *A)I()I{return I};func f(I I)I{return I.I()};func main(){A:=f(new(A)).(*A);print(A==nil)}", "type I interface{I()I};type A struct{};func(_0 *A)I()I{return _0};func f(_1 I)I{return _1.I()};func main(){_2:=f(new(A)).(*A);print(_2==nil)}")
	// Functions that are used ahead of where they stand, and as values.
	hold(t, "func main(){h:=f;h=g;f:=h;print(f(1))};func f(n int)int{return n};func g(n int)int{return f(n+1)}", "func main(){_0:=f;_0=g;_1:=_0;print(_1(1))};func f(_2 int)int{return _2};func g(_3 int)int{return f(_3+1)}")
}

// TestOrder: W1: variables are numbered as their nodes are: a KDefine stands behind its value, a KCaseRecv behind its block.
func TestOrder(t *testing.T) {
	hold(t, "func main(){f:=func(a int)int{b:=a;return b};print(f(1))}", "func main(){_2:=func(_0 int)int{_1:=_0;return _1};print(_2(1))}")
	hold(t, "func main(){f:=func(a func(int)int)int{return a(1)}(func(b int)int{c:=b;return c+1});print(f)}", "func main(){_3:=func(_0 func(int)int)int{return _0(1)}(func(_1 int)int{_2:=_1;return _2+1});print(_3)}")
	hold(t, "func main(){c:=make(chan int,1);c<-1;select{case a:=<-c:b:=a;print(b+a);case d:=<-func()chan int{e:=c;return e}():f:=d}}",
		"func main(){_0:=make(chan int,1);_0<-1;select{case _2:=<-_0:_1:=_2;print(_1+_2);case _5:=<-func()chan int{_3:=_0;return _3}():_4:=_5}}")
	hold(t, "func main(){c:=make(chan int,1);c<-1;select{case a:=<-c:c<-a;select{case b:=<-c:print(a-b);d:=b;print(d)}}}", "func main(){_0:=make(chan int,1);_0<-1;select{case _3:=<-_0:_0<-_3;select{case _2:=<-_0:print(_3-_2);_1:=_2;print(_1)}}}")
	// Not by names, nor by types, nor by who is used first.
	hold(t, "func main(){z:=1;y:=true;x:=2;print(x);print(y);print(z)}", "func main(){_0:=1;_1:=true;_2:=2;print(_2);print(_1);print(_0)}")
	// Over all functions, in the order of the text; of a method its own param comes first.
	hold(t, "func main(){a:=1};type A struct{};func(b *A)m(a int){c:=a};func f(c int){}", "func main(){_0:=1};type A struct{};func(_1 *A)m(_2 int){_3:=_2};func f(_4 int){}")
	// Blocks that end do not give numbers back.
	hold(t, "func main(){if true{a:=1;print(a)}else{a:=2;print(a)};for false{a:=3};a:=4;print(a)}", "func main(){if true{_0:=1;print(_0)}else{_1:=2;print(_1)};for false{_2:=3};_3:=4;print(_3)}")
}

// TestDigits: W1: numbers of more than one digit, no nought ahead.
func TestDigits(t *testing.T) {
	text, want := "func main(){", "func main(){"
	for i := range 120 {
		name := "v" + strings.Repeat("z", i%7) + strconv.Itoa(200-i)
		text += name + ":=" + strconv.Itoa(i) + ";print(" + name + ");"
		want += fmt.Sprintf("_%d:=%d;print(_%d);", i, i, i)
	}
	hold(t, text+"}", want+"}")
}

// TestScopes: W1: names are of the nearest variable; each one has its own.
func TestScopes(t *testing.T) {
	hold(t, "func main(){x:=1;if x<2{print(x);x:=x+1;print(x);x=5};print(x)}", "func main(){_0:=1;if _0<2{print(_0);_1:=_0+1;print(_1);_1=5};print(_0)}")
	hold(t, "func f(x int)int{if x>0{x:=x-1;return f(x)};x:=7;return x};func main(){x:=f(2);print(x)}", "func f(_0 int)int{if _0>0{_1:=_0-1;return f(_1)};_2:=7;return _2};func main(){_3:=f(2);print(_3)}")
	hold(t, "func main(){x:=1;f:=func(x int)int{x=x+1;x:=x*2;return x};print(f(x)+x)}", "func main(){_0:=1;_3:=func(_1 int)int{_1=_1+1;_2:=_1*2;return _2};print(_3(_0)+_0)}")
	hold(t, "func main(){x:=make(chan int,1);x<-4;select{case x:=<-x:print(x);x:=x+1;print(x)};close(x)}", "func main(){_0:=make(chan int,1);_0<-4;select{case _2:=<-_0:print(_2);_1:=_2+1;print(_1)};close(_0)}")
	hold(t, "func main(){x:=1;go func(){x=x+1;print(x)}();x=3;print(x)}", "func main(){_0:=1;go func(){_0=_0+1;print(_0)}();_0=3;print(_0)}")
	hold(t, "func f()int{return 1};func main(){if true{f:=f();print(f)};print(f())}", "func f()int{return 1};func main(){if true{_0:=f();print(_0)};print(f())}")
	// Names that look like new ones.
	hold(t, "func main(){_1:=1;_0:=2;print(_1-_0)}", "func main(){__0:=1;__1:=2;print(__0-__1)}")
	hold(t, "func _0(_1 int)int{return _1};func main(){_2:=_0;print(_2(5)+_0(6))}", "func _0(__0 int)int{return __0};func main(){__1:=_0;print(__1(5)+_0(6))}")
}

// TestAhead: W1: there is one `_` more than any name begins with, whatever has that name.
func TestAhead(t *testing.T) {
	for _, x := range []struct {
		text string
		many int
	}{
		{"func main(){x:=1}", 1},
		// Not within names, nor at their ends.
		{"func f_(a_b int){};func main(){x_:=1;y__z:=2;z___:=3}", 1},
		// Variables: by KDefine, KCaseRecv, KParam.
		{"func main(){_:=1}", 2},
		{"func main(){__x:=1;print(__x)}", 3},
		{"func main(){x:=1;_x:=2;___:=3;__y:=4}", 4},
		{"func main(){x:=1;if true{____x:=2}}", 5},
		{"func main(){x:=1;select{case __x:=<-make(chan int):default:}}", 3},
		{"func f(_a int){};func main(){x:=1}", 2},
		{"type A struct{};func(__a *A)m(){};func main(){x:=1}", 3},
		{"func main(){x:=func(___a int){}}", 4},
		// All other names: KParam of an interface's method, KField, KStruct, KMethodSig, KIface, KFunc, KMethod.
		{"type I interface{m(__a int)};func main(){x:=1}", 3},
		{"type A struct{___k int};func main(){x:=1}", 4},
		{"type __A struct{};func main(){x:=1}", 3},
		{"type I interface{_m()};func main(){x:=1}", 2},
		{"type __I interface{};func main(){x:=1}", 3},
		{"func __f(){};func main(){x:=1}", 3},
		{"type A struct{};func(a *A)_m(){};func main(){x:=1}", 2},
		// Where they are used: KNamed, KPtr, KName, KDot, KNew.
		{"type _I interface{_m()};type __A struct{___k int};func(a *__A)_m(){a.___k=1};func f(i _I,a *__A){i._m();_g()};func _g(){};func main(){x:=1;f(new(__A),nil)}", 4},
		// One begins with so many digits, another one with more `_`.
		{"func _000(){};func _1(){};func main(){x:=1}", 2},
	} {
		got, fault := Text(x.text)
		ahead := strings.Repeat("_", x.many)
		if fault.Code != api.OK || !strings.Contains(got, ahead+"0") || strings.Contains(got, ahead+"_") {
			t.Errorf("%q: %v: not %d:\n%s", x.text, fault, x.many, got)
		}
		holdNodes(t, x.text, got)
		// Then it takes one more.
		again, _ := Text(got)
		numbers := regexp.MustCompile(`\b` + ahead + `(\d)`)
		if want := numbers.ReplaceAllString(got, ahead+"_$1"); again != want {
			t.Errorf("%q, not %q", again, want)
		}
	}
}

// TestTooLong: W1, W2: what comes out is told also if it is too long; else it may be.
func TestTooLong(t *testing.T) {
	for _, x := range []struct {
		name   string
		prints int
		long   bool
	}{
		{"z", 300, false},
		{"_", 300, false},
		{"________", 300, false},
		{"________", 320, true},
		{strings.Repeat("_", 3000), 250, true},
		{strings.Repeat("_", 5900), 1, true},
	} {
		variable := strings.Repeat("_", strings.Count(x.name, "_")+1) + "0"
		text := "func " + x.name + "f(){};func main(){x:=1;" + strings.Repeat("print(x);", x.prints) + "}"
		want := "func " + x.name + "f() {\n}\n\nfunc main() {\n\t" + variable + " := 1\n" + strings.Repeat("\tprint("+variable+")\n", x.prints) + "}\n"
		_, ahead := check.Check(text)
		got, fault := Text(text)
		if ahead.Code != api.OK || fault != (api.Fault{}) || got != want {
			t.Errorf("%.40q: %v, %v: %d bytes: %.200q", text, ahead, fault, len(got), got)
		}
		if _, behind := check.Check(got); (behind.Code == api.ErrSize) != x.long || !x.long && behind.Code != api.OK {
			t.Errorf("%.40q: %v, of %d bytes", text, behind, len(got))
		}
		if is, fault := Same(text, strings.ReplaceAll(text, "x", "yy")); !x.long && (!is || fault.Code != api.OK) {
			t.Errorf("%.40q: %v, %v", text, is, fault)
		}
	}
}

// TestRuns: W2: runs are just the same, also as to where, and after how many steps, they end.
func TestRuns(t *testing.T) {
	for _, x := range []struct {
		text   string
		status int
	}{
		{"func main(){c:=make(chan int);go func(x int){c<-x}(1);go func(y int){c<-y}(2);print(<-c)}", api.Done},
		{"func main(){x:=1;for true{x=x+1;print(x)}}", api.Out},
		{"func f(n int)int{return f(n+1)};func main(){x:=f(0)}", api.Fell},
		{"type A struct{a *A};func main(){a:=new(A);b:=a.a;print(b.a==a)}", api.Fell},
		{"func main(){c:=make(chan int);d:=c;select{case x:=<-c:print(x);case d<-1:}}", api.Stuck},
	} {
		got, _ := Text(x.text)
		for _, script := range [][]int{nil, {1, 2, 3, 4, 5}, {2, 0, 1, -1}} {
			holdRuns(t, x.text, got, script)
			if trace, _ := run.Run(got, script); trace.Status != x.status {
				t.Errorf("%q: %v", x.text, trace)
			}
		}
	}
}

// holdSame holds what Same says of two programs, both ways round, and of each with itself; and that Text says the same, but for how many `_` there are.
func holdSame(t *testing.T, a, b string, want bool) {
	t.Helper()
	for _, x := range []struct {
		a, b string
		want bool
	}{{a, b, want}, {b, a, want}, {a, a, true}, {b, b, true}} {
		if is, fault := Same(x.a, x.b); is != x.want || fault != (api.Fault{}) {
			t.Errorf("%q, %q: %v, %v", x.a, x.b, is, fault)
		}
	}
	// With a name that begins with more than all others both have as many.
	first, _ := Text("type ________ struct{};" + a)
	second, _ := Text("type ________ struct{};" + b)
	if (first == second) != want {
		t.Errorf("%q, %q:\n%s and\n%s", a, b, first, second)
	}
}

// TestSame: W3: what does not matter.
func TestSame(t *testing.T) {
	for _, x := range []struct{ a, b string }{
		{"func main(){x:=1;print(x)}", "func main(){ y := 1\n print(y) }"},
		{"func main(){x:=1;print(x)}", "// a note\nfunc main() {\n\n\tx := (1); print(((x)));\n};"},
		{"func main(){print(1+(2*3));c:=make(chan int,0)}", "func main(){print((1)+2*3);d:=make(chan int)}"},
		// Each kind of variable.
		{"func f(a int,b int){print(a-b)};func main(){f(1,2)}", "func f(b int,a int){print(b-a)};func main(){f(1,2)}"},
		{"type A struct{k int};func(a *A)m(b int){a.k=b};func main(){}", "type A struct{k int};func(b *A)m(k int){b.k=k};func main(){}"},
		{"func main(){print(func(a int)int{return a}(1))}", "func main(){print(func(main int)int{return main}(1))}"},
		{"func main(){select{case a:=<-make(chan int):print(a)}}", "func main(){select{case b:=<-make(chan int):print(b)}}"},
		// One name for two variables, or two for one each.
		{"func main(){x:=1;if true{x:=2;print(x)};print(x)}", "func main(){x:=1;if true{y:=2;print(y)};print(x)}"},
		{"func f(x int){};func main(){x:=1;print(x)}", "func f(x int){};func main(){y:=1;print(y)}"},
		{"func main(){x:=1;y:=2;print(x-y)}", "func main(){y:=1;x:=2;print(y-x)}"},
		{"func main(){x:=1;f:=func(x int){print(x)};f(x)}", "func main(){f:=1;x:=func(f int){print(f)};x(f)}"},
		{"func main(){c:=make(chan int);select{case c:=<-c:print(c)}}", "func main(){c:=make(chan int);select{case d:=<-c:print(d)}}"},
		// A variable that is called as something else is.
		{"func f(){};func main(){f();x:=1;print(x)}", "func f(){};func main(){f();f:=1;print(f)}"},
		{"type A struct{a int};func main(){x:=new(A);x.a=1}", "type A struct{a int};func main(){A:=new(A);A.a=1}"},
		{"type A struct{a int};func main(){x:=new(A);x.a=1}", "type A struct{a int};func main(){a:=new(A);a.a=1}"},
		// Another number of `_`.
		{"func main(){x:=1;print(x)}", "func main(){___x:=1;print(___x)}"},
		{"func main(){_0:=1;_1:=2;print(_0-_1)}", "func main(){__1:=1;_0:=2;print(__1-_0)}"},
	} {
		holdSame(t, x.a, x.b, true)
	}
}

// TestNotSame: W3: what does matter.
func TestNotSame(t *testing.T) {
	for _, x := range []struct{ a, b string }{
		// Which variable it is.
		{"func main(){x:=1;y:=2;print(x)}", "func main(){y:=1;x:=2;print(x)}"},
		{"func main(){x:=1;y:=2;print(x-y)}", "func main(){x:=1;y:=2;print(y-x)}"},
		{"func main(){x:=1;y:=2;print(x-y)}", "func main(){x:=1;y:=2;print(x-x)}"},
		{"func main(){x:=1;y:=2;x=3}", "func main(){x:=1;y:=2;y=3}"},
		{"func f(a int,b int){print(a)};func main(){}", "func f(b int,a int){print(a)};func main(){}"},
		{"func main(){x:=1;if true{x:=2;print(x)}}", "func main(){x:=1;if true{y:=2;print(x)}}"},
		{"func main(){x:=main;if true{x:=func(){x()};x()}}", "func main(){x:=main;if true{y:=func(){x()};x()}}"},
		{"func main(){c:=make(chan chan int);select{case c:=<-c:close(c)}}", "func main(){c:=make(chan chan int);select{case d:=<-c:close(c)}}"},
		{"type A struct{};func(a *A)m(b *A){print(a==nil)};func main(){}", "type A struct{};func(b *A)m(a *A){print(a==nil)};func main(){}"},
		// A variable, or a function, also of the same name.
		{"func f(){};func main(){f:=f;f()}", "func f(){};func main(){g:=f;f()}"},
		{"func h(){};func f(g func()){h()};func main(){}", "func h(){};func f(h func()){h()};func main(){}"},
		{"func _0(){};func main(){x:=main;x()}", "func _0(){};func main(){x:=main;_0()}"},
		// A case with, or without a name.
		{"func main(){select{case a:=<-make(chan int):}}", "func main(){select{case <-make(chan int):}}"},
		{"func main(){select{case a:=<-make(chan int):b:=1}}", "func main(){select{case <-make(chan int):b:=1}}"},
		// Names of all else: functions, methods, structs, fields, interfaces, their methods, and what these are handed.
		{"func f(){};func main(){}", "func g(){};func main(){}"},
		{"func f(){};func g(){};func main(){f()}", "func f(){};func g(){};func main(){g()}"},
		{"type A struct{};func(a *A)m(){};func main(){}", "type A struct{};func(a *A)n(){};func main(){}"},
		{"type A struct{};func main(){}", "type B struct{};func main(){}"},
		{"type A struct{};type B struct{};func main(){x:=new(A)}", "type A struct{};type B struct{};func main(){x:=new(B)}"},
		{"type A struct{};type B struct{};func f(a *A){};func main(){}", "type A struct{};type B struct{};func f(a *B){};func main(){}"},
		{"type A struct{k int};func main(){}", "type A struct{n int};func main(){}"},
		{"type A struct{k int;n int};func main(){print(new(A).k)}", "type A struct{k int;n int};func main(){print(new(A).n)}"},
		{"type I interface{};func main(){}", "type J interface{};func main(){}"},
		{"type I interface{};type J interface{};func f(i I){};func main(){}", "type I interface{};type J interface{};func f(i J){};func main(){}"},
		{"type I interface{m()};func main(){}", "type I interface{n()};func main(){}"},
		{"type I interface{m(a int)};func main(){}", "type I interface{m(b int)};func main(){}"},
		{"type I interface{m(a int,b int)};func main(){}", "type I interface{m(b int,a int)};func main(){}"},
		// Just by how many `_` they begin with.
		{"func _f(){};func main(){}", "func __f(){};func main(){}"},
		{"func _f(){};func main(){x:=1}", "func f(){};func main(){x:=1}"},
		{"type I interface{m(_ int)};func main(){}", "type I interface{m(__ int)};func main(){}"},
		// Numbers, operators, kinds of nodes.
		{"func main(){print(1)}", "func main(){print(2)}"},
		{"func main(){print(true)}", "func main(){print(false)}"},
		{"func main(){print(1)}", "func main(){print(true)}"},
		{"func main(){print(1+2)}", "func main(){print(1-2)}"},
		{"func main(){print(1<2)}", "func main(){print(1<=2)}"},
		{"func main(){x:=make(chan int,1)}", "func main(){x:=make(chan int,2)}"},
		{"func main(){x:=make(chan int)}", "func main(){x:=make(chan bool)}"},
		{"func f(a int){};func main(){}", "func f(a bool){};func main(){}"},
		{"func f(a int){};func main(){}", "func f()int{};func main(){}"},
		{"func f(a func(int)){};func main(){}", "func f(a func()int){};func main(){}"},
		{"func main(){x:=1;print(-x)}", "func main(){x:=1;print(0-x)}"},
		{"type A struct{};func main(){}", "type A interface{};func main(){}"},
		{"type A struct{};func f(a *A){};func main(){}", "type A interface{};func f(a A){};func main(){}"},
		{"func main(){panic(1)}", "func main(){print(1)}"},
		// How they stand within one another, and in which order.
		{"func main(){print(1+2+3)}", "func main(){print(1+(2+3))}"},
		{"func main(){print(1-2*3)}", "func main(){print((1-2)*3)}"},
		{"func main(){if true{print(1)};print(2)}", "func main(){if true{print(1);print(2)}}"},
		{"func main(){if true{};if true{}}", "func main(){if true{if true{}}}"},
		{"func main(){if true{}else if true{}}", "func main(){if true{}else{if true{}}}"},
		{"func f(){};func main(){}", "func main(){};func f(){}"},
		{"func main(){print(1);print(2)}", "func main(){print(2);print(1)}"},
		// One has more.
		{"func main(){}", "func main(){x:=1}"},
		{"func main(){print(1)}", "func main(){print(1);print(1)}"},
		{"func main(){}", "func main(){};func f(){}"},
		{"func main(){}", "type A struct{};func main(){}"},
		{"func main(){if true{}}", "func main(){if true{}else{}}"},
		{"func f()int{return 1};func main(){}", "func f()int{};func main(){}"},
	} {
		holdSame(t, x.a, x.b, false)
	}
}

// wrong are texts, and what Check says of them.
var wrong = []struct {
	text string
	code api.Errno
}{
	{"", api.ErrMain},
	{"func f(a int){}", api.ErrMain},
	{"func main(a int){}", api.ErrMain},
	{strings.Repeat(" ", api.MaxText+1), api.ErrSize},
	{"func main(){x:=1;print(x)\xff}", api.ErrRune},
	{"func main(){é:=1}", api.ErrRune},
	{"func main(){x:=}", api.ErrSyntax},
	{"func main(){0x:=1}", api.ErrSyntax},
	{"func main(){x:=" + strings.Repeat("(", 40) + "1" + strings.Repeat(")", 40) + "}", api.ErrDeep},
	{"func main(){x:=1;" + strings.Repeat("print(x);", 600) + "}", api.ErrFull},
	{"func main(){print(x)}", api.ErrName},
	{"func main(){print(x);x:=1}", api.ErrName},
	{"func main(){x:=x}", api.ErrName},
	{"func main(){x:=1;x:=2}", api.ErrTwice},
	{"func f(a int,a int){};func main(){}", api.ErrTwice},
	{"type I interface{m(a int,a int)};func main(){}", api.ErrTwice},
	{"func main(){x:=1;x=true}", api.ErrType},
	{"func main(){x:=nil}", api.ErrType},
	{"func f(a int){};func main(){f()}", api.ErrCount},
	{"func main(){x:=make(chan int,9)}", api.ErrRange},
}

// TestFaults: W1: Text answers Check's fault, and nothing else.
func TestFaults(t *testing.T) {
	for _, x := range wrong {
		_, want := check.Check(x.text)
		if want.Code != x.code {
			t.Fatalf("%.60q: %v", x.text, want)
		}
		if got, fault := Text(x.text); fault != want || got != "" {
			t.Errorf("%.60q: %v, not %v; %q", x.text, fault, want, got)
		}
	}
	if _, fault := Text("func main(){x:=1;x=true}"); fault != (api.Fault{Code: api.ErrType, At: 17}) {
		t.Error(fault)
	}
}

// TestSameFaults: W3: Same answers Check's fault of the first program, else that of the second one.
func TestSameFaults(t *testing.T) {
	right := "func main(){x:=1;print(x)}"
	for i, x := range wrong {
		_, first := check.Check(x.text)
		other := wrong[(i+1)%len(wrong)].text
		for _, pair := range [][2]string{{x.text, right}, {right, x.text}, {x.text, other}, {x.text, x.text}} {
			if is, fault := Same(pair[0], pair[1]); is || fault != first {
				t.Errorf("%.60q, %.60q: %v, %v, not %v", pair[0], pair[1], is, fault, first)
			}
		}
	}
}

// TestAgain: P3: the same is answered again.
func TestAgain(t *testing.T) {
	text := "type A struct{a *A};func(a *A)m(b int)int{c:=b;return c};func main(){x:=new(A);c:=make(chan int,1);go func(y int){c<-x.m(y)}(3);select{case z:=<-c:print(z)}}"
	want, _ := Text(text)
	for range 50 {
		got, fault := Text(text)
		is, second := Same(text, want)
		if got != want || fault != (api.Fault{}) || !is || second != (api.Fault{}) {
			t.Fatalf("%v, %v, %v: %s, not %s", fault, is, second, got, want)
		}
	}
}

// TestGreat: P1: programs as great as may be, with many variables, or many names.
func TestGreat(t *testing.T) {
	defines, numbered := "", ""
	for i := range 400 {
		defines += fmt.Sprintf("v%d:=%d;", i, i%10)
		numbered += fmt.Sprintf("_%d:=%d;", i, i%10)
	}
	hold(t, "func main(){"+defines+"}", "func main(){"+numbered+"}")
	hold(t, "func main(){x:=0;x=x"+strings.Repeat("+x", 590)+";print(x)}", "func main(){_0:=0;_0=_0"+strings.Repeat("+_0", 590)+";print(_0)}")
	// As deep as can be: the same name again and again.
	deep, shallow := "func main(){x:=0;", "func main(){_0:=0;"
	for i := range 28 {
		deep += "if true{x:=x+1;print(x);"
		shallow += fmt.Sprintf("if true{_%d:=_%d+1;print(_%d);", i+1, i, i+1)
	}
	hold(t, deep+strings.Repeat("}", 29), shallow+strings.Repeat("}", 29))
	// Literals within one another, whose variables stand behind all that is within.
	within, want := "print(x)", "print(_27)"
	for i := 27; i >= 0; i-- {
		within = "x:=func(x int){" + within + "};x(1)"
		want = fmt.Sprintf("_%d:=func(_%d int){%s};_%d(1)", 55-i, i, want, 55-i)
	}
	hold(t, "func main(){"+within+"}", "func main(){"+want+"}")
}
