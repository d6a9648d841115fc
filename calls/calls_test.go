package calls

import (
	"fmt"
	"slices"
	"strconv"
	"strings"
	"testing"

	"ravel/api"
	"ravel/check"
	"ravel/syntax"
)

// unmark takes the marks (@ and a sign) out of a text, and answers which ones stood ahead of which byte.
func unmark(marked string) (string, map[int]string) {
	var text strings.Builder
	marks := map[int]string{}
	for i := 0; i < len(marked); i++ {
		if marked[i] == '@' {
			i++
			marks[text.Len()] = marked[i : i+1]
			continue
		}
		text.WriteByte(marked[i])
	}
	return text.String(), marks
}

// tell asks all faces of a marked text: of calls each one's sign and that of what it can call, sorted; of what is met the signs, sorted; of rings the signs in their order. Nodes that are not marked are their numbers.
func tell(t *testing.T, marked string) (calls, met, rings string) {
	t.Helper()
	text, marks := unmark(marked)
	nodes, fault := syntax.Parse(text)
	pairs, first := Calls(text)
	isMet, second := Met(text)
	lists, third := Rings(text)
	if fault.Code+first.Code+second.Code+third.Code != api.OK || len(isMet) != len(nodes) {
		t.Fatalf("%q: %v, %v, %v, %v; %d", text, fault, first, second, third, len(isMet))
	}
	word := func(number int) string {
		if mark := marks[nodes[number].At]; mark != "" {
			return mark
		}
		return fmt.Sprintf("<%d>", number)
	}
	var a, b, c []string
	for _, pair := range pairs {
		a = append(a, word(pair[0])+word(pair[1]))
	}
	for number, is := range isMet {
		if is != 0 {
			b = append(b, word(number))
		}
	}
	for _, list := range lists {
		ring := ""
		for _, number := range list {
			ring += word(number)
		}
		c = append(c, ring)
	}
	slices.Sort(a)
	slices.Sort(b)
	return strings.Join(a, " "), strings.Join(b, ""), strings.Join(c, " ")
}

// hold holds what is told of a marked text.
func hold(t *testing.T, marked, calls, met, rings string) {
	t.Helper()
	gotCalls, gotMet, gotRings := tell(t, marked)
	if gotCalls != calls || gotMet != met || gotRings != rings {
		t.Errorf("%q:\n%q, %q, %q,\nnot\n%q, %q, %q", marked, gotCalls, gotMet, gotRings, calls, met, rings)
	}
}

// TestCalls: J1: what can be called by names, variables, params, fields, channels, what comes back.
func TestCalls(t *testing.T) {
	hold(t, "@mfunc main(){}", "", "m", "")
	hold(t, "@ffunc f(){};@mfunc main(){f@1();f@2()}", "1f 2f", "fm", "")
	hold(t, "@mfunc main(){f@1()};@ffunc f(){g@2()};@gfunc g(){}", "1f 2g", "fgm", "")
	// By a variable each one that can be there; nobody, where but nil is.
	hold(t, "@ffunc f(){};@gfunc g(){};@mfunc main(){h:=f;h=g;h@1();h=@lfunc(){};h=nil}", "1f 1g 1l", "fglm", "")
	hold(t, "type A struct{f func()};@mfunc main(){a:=new(A);a.f@1()}", "", "m", "")
	hold(t, "type A struct{f func()};@gfunc g(){};@mfunc main(){a:=new(A);a.f@1();b:=new(A);b.f=g;b.f@2()}", "2g", "gm", "")
	hold(t, "@ffunc f(){};@gfunc g(h func()){h@1()};@mfunc main(){g@2(f);g@3(@lfunc(){});g@4(nil)}", "1f 1l 2g 3g 4g", "fglm", "")
	hold(t, "@ffunc f(){};@mfunc main(){c:=make(chan func(),1);c<-f;(<-c)@1()}", "1f", "fm", "")
	hold(t, "@ffunc f()func(){return @lfunc(){}};@mfunc main(){f@1()@2()}", "1f 2l", "flm", "")
	hold(t, "@mfunc main(){@lfunc(){}@1()}", "1l", "lm", "")
	// A call in another one, each by itself.
	hold(t, "@ffunc f(n int)int{return n};@gfunc g(n int)int{return 1};@mfunc main(){print(f@1(g@2(f@3(1))))}", "1f 2g 3f", "fgm", "")
	// That of a KGo.
	hold(t, "@ffunc f(){};@mfunc main(){go f@1();go @lfunc(){}@2()}", "1f 2l", "flm", "")
	// In what is not met, and where one does not come.
	hold(t, "@ffunc f(){};@gfunc g(){f@1()};@mfunc main(){return;f@2()}", "1f 2f", "fm", "")
	// print, panic and close are no calls.
	hold(t, "@mfunc main(){print(1);c:=make(chan int);close(c);panic(2)}", "", "m", "")
}

// things has structs, and interfaces that they have.
const things = "type A struct{};type B struct{};type C struct{};type I interface{m()};type J interface{m();o()};" +
	"@afunc(x *A)m(){};@bfunc(x *B)m(){};@cfunc(x *B)o(){};@dfunc(x *C)o(){};"

// TestMethods: J1: what can be called by a KDot.
func TestMethods(t *testing.T) {
	hold(t, things+"@mfunc main(){x:=new(A);x.m@1();new(B).m@2();new(B).o@3()}", "1a 2b 3c", "abcm", "")
	// A struct's method is called, also if but nil can stand ahead; what is not called is not.
	hold(t, things+"@mfunc main(){c:=make(chan *C);(<-c).o@1();f:=new(A).m}", "1d", "dm", "")
	hold(t, things+"@mfunc main(){f:=new(A).m;f=new(B).m;f=new(B).o;f@1();go f@2()}", "1a 1b 1c 2a 2b 2c", "abcm", "")
	// An interface's: of those that can stand ahead.
	hold(t, things+"@ffunc f(i I){i.m@1()};@mfunc main(){f@2(new(A))}", "1a 2f", "afm", "")
	hold(t, things+"@ffunc f(i I){i.m@1()};@mfunc main(){f@2(new(A));f@3(new(B));f@4(new(B))}", "1a 1b 2f 3f 4f", "abfm", "")
	hold(t, things+"@ffunc f(i I){i.m@1()};@mfunc main(){x:=new(A);f@2(nil)}", "2f", "fm", "")
	hold(t, things+"@ffunc f(j J){j.o@1();g@2(j)};@gfunc g(i I){h:=i.m;h@3()};@mfunc main(){f@4(new(B))}", "1c 2g 3b 4f", "bcfgm", "")
	// What an assertion does not let through is not called by it.
	hold(t, things+"@ffunc f(i I){i.(*A).m@1();i.m@2()};@mfunc main(){f@3(new(B))}", "1a 2b 3f", "abfm", "")
}

// TestMet: J2.
func TestMet(t *testing.T) {
	// What just stands there is not met, nor what is just named.
	hold(t, "@ffunc f(){};@gfunc g(){};type A struct{};@afunc(x *A)m(){};@mfunc main(){h:=f;k:=@lfunc(){};j:=new(A).m}", "", "m", "")
	// What is called by who is not met is not met.
	hold(t, "@ffunc f(){g@1()};@gfunc g(){f@2();main@3()};@mfunc main(){}", "1g 2f 3m", "m", "fg")
	// Calls in a literal are of the literal, which has to be met itself.
	hold(t, "@ffunc f(){};@mfunc main(){k:=@lfunc(){f@1()}}", "1f", "m", "")
	hold(t, "@ffunc f(){};@mfunc main(){k:=@lfunc(){f@1()};k@2()}", "1f 2l", "flm", "")
	hold(t, "@ffunc f(){};@mfunc main(){k:=@lfunc(){j:=@nfunc(){f@1()}};k@2()}", "1f 2l", "lm", "")
	hold(t, "@ffunc f(){};@mfunc main(){k:=@lfunc(){@nfunc(){f@1()}@2()};k@3()}", "1f 2n 3l", "flmn", "")
	// A literal can be met, though what is around it is not.
	hold(t, "@ffunc f(){g@1(@lfunc(){})};@gfunc g(h func()){h@2()};@mfunc main(){g@3(nil)}", "1g 2l 3g", "glm", "")
	// Who is met calls what comes from who is not.
	hold(t, things+"@ffunc f(){g@1(new(B))};@gfunc g(i I){i.m@2()};@mfunc main(){g@3(new(A))}", "1g 2a 2b 3g", "abgm", "")
	// By a KGo, and in what is called and the values of calls.
	hold(t, "@ffunc f(){g@1()};@gfunc g(){};@mfunc main(){go f@2()}", "1g 2f", "fgm", "")
	hold(t, "@ffunc f()int{return 1};@gfunc g(n int){};@hfunc h()func(int){return g};@mfunc main(){h@1()@2(f@3());go h@4()@5(f@6())}", "1h 2g 3f 4h 5g 6f", "fghm", "")
	// A method that is called main, and a variable of that name, are others.
	hold(t, "type A struct{};@afunc(x *A)main(){f@1()};@ffunc f(){};@mfunc main(){main:=@lfunc(){};print(main==nil)}", "1f", "m", "")
	// main can be called, too.
	hold(t, "@ffunc f(){main@1()};@mfunc main(){if false{f@2()}}", "1m 2f", "fm", "fm")
}

// TestRings: J3.
func TestRings(t *testing.T) {
	hold(t, "@ffunc f(){f@1()};@mfunc main(){}", "1f", "m", "f")
	hold(t, "@mfunc main(){main@1()}", "1m", "m", "m")
	hold(t, "@ffunc f(){g@1()};@gfunc g(){h@2()};@hfunc h(){f@3()};@mfunc main(){g@4()}", "1g 2h 3f 4g", "fghm", "fgh")
	// Several ways to one, and none back.
	hold(t, "@ffunc f(){g@1();h@2()};@gfunc g(){k@3()};@hfunc h(){k@4()};@kfunc k(){};@mfunc main(){f@5()}", "1g 2h 3k 4k 5f", "fghkm", "")
	// One comes from a ring to another one: they are two.
	hold(t, "@ffunc f(){g@1()};@gfunc g(){f@2();h@3()};@hfunc h(){k@4()};@kfunc k(){h@5()};@mfunc main(){f@6()}", "1g 2f 3h 4k 5h 6f", "fghkm", "fg hk")
	// Rings with one in common are one; so is what is between.
	hold(t, "@ffunc f(){g@1()};@gfunc g(){f@2();h@3()};@hfunc h(){g@4()};@mfunc main(){}", "1g 2f 3h 4g", "m", "fgh")
	hold(t, "@ffunc f(){f@1();g@2()};@gfunc g(){h@3()};@hfunc h(){h@4();f@5()};@mfunc main(){}", "1f 2g 3h 4h 5f", "m", "fgh")
	// Who just leads to a ring, or is led to, is not in it.
	hold(t, "@ffunc f(){g@1()};@gfunc g(){g@2();h@3()};@hfunc h(){};@mfunc main(){f@4()}", "1g 2g 3h 4f", "fghm", "g")
	// Lists by their first ones, whatever else is in them.
	hold(t, "@ffunc f(){k@1()};@gfunc g(){h@2()};@hfunc h(){g@3()};@kfunc k(){f@4()};@jfunc j(){j@5()};@mfunc main(){}", "1k 2h 3g 4f 5j", "m", "fk gh j")
	// Calls in a literal are of the literal.
	hold(t, "@ffunc f(){h:=@lfunc(){f@1()}};@mfunc main(){}", "1f", "m", "")
	hold(t, "@ffunc f(){h:=@lfunc(){f@1()};h@2()};@mfunc main(){}", "1f 2l", "m", "lf")
	hold(t, "@mfunc main(){h:=@lfunc(){};h=@kfunc(){h@1()}}", "1k 1l", "m", "k")
	// By a KGo, by methods, by interfaces, by a method with what stands ahead.
	hold(t, "@ffunc f(){go f@1()};@mfunc main(){}", "1f", "m", "f")
	hold(t, "type A struct{};@afunc(x *A)m(){x.o@1()};@bfunc(x *A)o(){x.m@2()};@mfunc main(){}", "1b 2a", "m", "ab")
	hold(t, "type A struct{};type B struct{i I};type I interface{m()};@afunc(x *A)m(){};@bfunc(x *B)m(){x.i.m@1()};@mfunc main(){x:=new(B);x.i=new(A);x.m@2()}", "1a 2b", "abm", "")
	hold(t, "type A struct{};type B struct{i I};type I interface{m()};@afunc(x *A)m(){};@bfunc(x *B)m(){x.i.m@1()};@mfunc main(){x:=new(B);x.i=new(A);x.m@2();x.i=x}", "1a 1b 2b", "abm", "b")
	hold(t, "type A struct{f func()};@afunc(x *A)m(){x.f@1()};@mfunc main(){x:=new(A);x.f=x.m;x.m@2()}", "1a 2a", "am", "a")
}

// TestExample: the numbers of nodes.
func TestExample(t *testing.T) {
	// nodes: 0 int, 1 param, 2 int, 3 sig, 4 f, 5 n, 6 1, 7 n-1, 8 f(n-1), 9 return, 10 block, 11 f; 12 sig, 13 block, 14 g;
	// 15 sig, 16 f, 17 h:=f, 18 h, 19 3, 20 h(3), 21 print, 22 block, 23 main; 24 program
	text := "func f(n int)int{return f(n-1)};func g(){};func main(){h:=f;print(h(3))}"
	calls, first := Calls(text)
	met, second := Met(text)
	rings, third := Rings(text)
	if got := fmt.Sprint(calls, first); got != "[[8 11] [20 11]] {0 0}" {
		t.Error(got)
	}
	if got := fmt.Sprint(met, second); got != "[0 0 0 0 0 0 0 0 0 0 0 1 0 0 0 0 0 0 0 0 0 0 0 1 0] {0 0}" {
		t.Error(got)
	}
	if got := fmt.Sprint(rings, third); got != "[[11]] {0 0}" {
		t.Error(got)
	}
}

// TestOrder: J1, J3: pairs are rising, as are rings and their first ones.
func TestOrder(t *testing.T) {
	text := "func main(){h:=main;" + strings.Repeat("h=func(){h();h();k:=func(){};if h==nil{k=func(){k()}}};h();", 9) + "}"
	pairs, fault := Calls(text)
	if !slices.IsSortedFunc(pairs, func(a, b [2]int) int { return slices.Compare(a[:], b[:]) }) || len(slices.Compact(slices.Clone(pairs))) != len(pairs) || len(pairs) != 27*10+9*2 || fault != (api.Fault{}) {
		t.Error(pairs, fault)
	}
	rings, fault := Rings(text)
	if !slices.IsSortedFunc(rings, func(a, b []int) int { return a[0] - b[0] }) || len(rings) != 10 || fault != (api.Fault{}) {
		t.Error(rings, fault)
	}
	for _, ring := range rings {
		if !slices.IsSorted(ring) || len(ring) != 1 && len(ring) != 10 {
			t.Error(ring)
		}
	}
}

// TestFaults: all answer Check's fault, and nothing else.
func TestFaults(t *testing.T) {
	for _, x := range []struct {
		text string
		code api.Errno
	}{
		{"", api.ErrMain},
		{"func f(){f()}", api.ErrMain},
		{"func main(n int){main(1)}", api.ErrMain},
		{strings.Repeat(" ", api.MaxText+1), api.ErrSize},
		{"func main(){main(\xff)}", api.ErrRune},
		{"func main(){main(}", api.ErrSyntax},
		{"func main(){print" + strings.Repeat("(", 40) + "1" + strings.Repeat(")", 40) + "}", api.ErrDeep},
		{"func main(){" + strings.Repeat("main();", 600) + "}", api.ErrFull},
		{"func main(){f()}", api.ErrName},
		{"type A struct{};func main(){new(A).m()}", api.ErrName},
		{"func f(){};func f(){};func main(){f()}", api.ErrTwice},
		{"func main(){h:=1;h()}", api.ErrType},
		{"func f(n int){};func main(){f(true)}", api.ErrType},
		{"func f(n int){};func main(){f()}", api.ErrCount},
		{"func main(){main(1)}", api.ErrCount},
		{"func main(){c:=make(chan func(),9);(<-c)()}", api.ErrRange},
	} {
		_, want := check.Check(x.text)
		if want.Code != x.code {
			t.Fatalf("%q: %v", x.text, want)
		}
		calls, first := Calls(x.text)
		met, second := Met(x.text)
		rings, third := Rings(x.text)
		if first != want || second != want || third != want || len(calls)+len(met)+len(rings) > 0 {
			t.Errorf("%q: %v, %v, %v, not %v; %v, %v, %v", x.text, first, second, third, want, calls, met, rings)
		}
	}
}

// TestNewMemory: P3: what is answered is not kept, no two lists share memory, and the same is answered again.
func TestNewMemory(t *testing.T) {
	text, _ := unmark(things + "func f(i I){i.m();g(i)};func g(i I){f(i);h:=i.m;h=func(){h()};h()};func k(){k()};func main(){f(new(A));g(new(B))}")
	ask := func() string {
		calls, first := Calls(text)
		met, second := Met(text)
		rings, third := Rings(text)
		all := fmt.Sprint(calls, met, rings, first, second, third)
		for i := range calls {
			calls[i] = [2]int{-9, -9}
		}
		for _, list := range append(rings, met) {
			list = list[:cap(list)]
			for i := range list {
				if list[i] == -9 {
					t.Fatal("two lists share memory")
				}
				list[i] = -9
			}
		}
		return all
	}
	want := ask()
	for range 50 {
		if got := ask(); got != want {
			t.Fatalf("%s, not %s", got, want)
		}
	}
}

// TestGreat: P1: programs as great as may be, in which much is called.
func TestGreat(t *testing.T) {
	name := func(i int) string { return "_" + strconv.FormatInt(int64(i), 36) }
	// Each one calls the next one, and the last one the first one, or main, or nobody.
	line := ""
	for i := range 198 {
		line += "func " + name(i) + "(){" + name(i+1) + "()};"
	}
	last := "func " + name(198) + "()"
	// Each literal can call all of them.
	all := "func main(){h:=main;" + strings.Repeat("h=func(){h()};", 148) + "}"
	// Each of many calls can call each of many literals.
	many := "func main(){h:=main;" + strings.Repeat("h=func(){};", 110) + strings.Repeat("h();", 200) + "}"
	for _, x := range []struct {
		text                     string
		calls, met, rings, first int
	}{
		{line + last + "{" + name(0) + "()};func main(){}", 199, 1, 1, 199},
		{line + last + "{};func main(){" + name(0) + "()}", 199, 200, 0, 0},
		{line + last + "{main()};func main(){}", 199, 1, 0, 0},
		{all, 148 * 149, 1, 1, 148},
		{many, 200 * 111, 111, 1, 1},
	} {
		calls, fault := Calls(x.text)
		met, _ := Met(x.text)
		rings, _ := Rings(x.text)
		sum, first := 0, 0
		for _, is := range met {
			sum += is
		}
		if len(rings) > 0 {
			first = len(rings[0])
		}
		if fault.Code != api.OK || len(calls) != x.calls || sum != x.met || len(rings) != x.rings || first != x.first {
			t.Errorf("%.60q: %v: %d calls, %d met, %d rings, %d in the first one", x.text, fault, len(calls), sum, len(rings), first)
		}
	}
}
