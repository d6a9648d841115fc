package effects

import (
	"fmt"
	"slices"
	"strconv"
	"strings"
	"testing"

	"ravel/api"
	"ravel/check"
	"ravel/syntax"
)

// unmark takes the marks (@ and a sign) out of a text, and answers which ones stood ahead of which byte.
func unmark(marked string) (string, map[int]string) {
	var text strings.Builder
	marks := map[int]string{}
	for i := 0; i < len(marked); i++ {
		if marked[i] == '@' {
			i++
			marks[text.Len()] = marked[i : i+1]
			continue
		}
		text.WriteByte(marked[i])
	}
	return text.String(), marks
}

// letter answers a letter of a kind that can be done; of all others its number.
func letter(kind int) string {
	switch kind {
	case api.KSend:
		return "s"
	case api.KRecv:
		return "r"
	case api.KClose:
		return "c"
	case api.KPrint:
		return "p"
	case api.KGo:
		return "g"
	case api.KPanic:
		return "x"
	}
	return fmt.Sprintf("<%d>", kind)
}

// tell asks both faces of a marked text: of each node that can do something its sign, a colon, and the letters of what it can do; the signs of quiet calls; both sorted. Nodes that are not marked are their numbers.
func tell(t *testing.T, marked string) (of, quiet string) {
	t.Helper()
	text, marks := unmark(marked)
	nodes, fault := syntax.Parse(text)
	lists, first := Of(text)
	calls, second := Quiet(text)
	if fault.Code+first.Code+second.Code != api.OK || len(lists) != len(nodes) {
		t.Fatalf("%q: %v, %v, %v; %d", text, fault, first, second, len(lists))
	}
	word := func(number int) string {
		if mark := marks[nodes[number].At]; mark != "" {
			return mark
		}
		return fmt.Sprintf("<%d>", number)
	}
	rising := func(list []int) {
		if !slices.IsSorted(list) || len(slices.Compact(slices.Clone(list))) != len(list) {
			t.Errorf("%q: %v is not rising", text, list)
		}
	}
	var a, b []string
	for number, list := range lists {
		rising(list)
		var letters []string
		for _, kind := range list {
			letters = append(letters, letter(kind))
		}
		slices.Sort(letters)
		if len(list) > 0 {
			a = append(a, word(number)+":"+strings.Join(letters, ""))
		}
	}
	rising(calls)
	for _, number := range calls {
		if nodes[number].Kind != api.KCall {
			t.Errorf("%q: %d is quiet", text, number)
		}
		b = append(b, word(number))
	}
	slices.Sort(a)
	slices.Sort(b)
	return strings.Join(a, " "), strings.Join(b, "")
}

// hold holds what is told of a marked text.
func hold(t *testing.T, marked, of, quiet string) {
	t.Helper()
	gotOf, gotQuiet := tell(t, marked)
	if gotOf != of || gotQuiet != quiet {
		t.Errorf("%q:\n%q, %q,\nnot\n%q, %q", marked, gotOf, gotQuiet, of, quiet)
	}
}

// TestOwn: M1: what stands in functions, methods and literals.
func TestOwn(t *testing.T) {
	hold(t, "@mfunc main(){}", "", "")
	hold(t, "@mfunc main(){c:=make(chan int);c<-1}", "m:s", "")
	hold(t, "@mfunc main(){c:=make(chan int);<-c}", "m:r", "")
	hold(t, "@mfunc main(){c:=make(chan int);close(c)}", "m:c", "")
	hold(t, "@mfunc main(){print(1)}", "m:p", "")
	hold(t, "@mfunc main(){go main@1()}", "m:g", "")
	hold(t, "@mfunc main(){panic(1)}", "m:x", "")
	// Cases are told as what they do; that there is a select, or a default, is nothing.
	hold(t, "@mfunc main(){c:=make(chan int);select{case c<-1:}}", "m:s", "")
	hold(t, "@mfunc main(){c:=make(chan int);select{case <-c:}}", "m:r", "")
	hold(t, "@mfunc main(){c:=make(chan int);select{case n:=<-c:}}", "m:r", "")
	hold(t, "@mfunc main(){c:=make(chan int);select{case n:=<-c:case c<-2:case c<-3:c<-4}}", "m:rs", "")
	hold(t, "@mfunc main(){select{default:};select{}}", "", "")
	hold(t, "@mfunc main(){c:=make(chan chan int);select{case (<-c)<-3:}}", "m:rs", "")
	hold(t, "@mfunc main(){c:=make(chan chan int);select{case <-<-c:}}", "m:r", "")
	// All of it, each once, wherever it stands.
	hold(t, "@mfunc main(){c:=make(chan int,1);if <-c==1{close(c);close(c)}else if true{panic(1)}else{c<-<-c};for <-c<3{go main@1();print(-<-c);break};return;print(2)}", "m:cgprsx", "")
	hold(t, "@ffunc f(n int)int{return n};@mfunc main(){c:=make(chan int);x:=f@1(<-c)+1;x=<-c}", "m:r", "1")
	// All else does nothing.
	hold(t, "type A struct{n int;i I};type I interface{};@ffunc f(i I)int{a:=new(A);a.n=-3/0;b:=!(a.n<1)&&a==nil;c:=make(chan int,1);for b{break};if b{};a.i=a;b=c==nil;return i.(*A).n};@mfunc main(){f@1(nil)}", "", "1")
	// Methods; and those that are not met.
	hold(t, "type A struct{};@afunc(x *A)m(){print(1)};@bfunc(x *A)o(c chan int){close(c)};@ffunc f(){panic(1)};@mfunc main(){}", "a:p b:c f:x", "")
	// Literals are by themselves.
	hold(t, "@mfunc main(){k:=@lfunc(){print(1)}}", "l:p", "")
	hold(t, "@mfunc main(){panic(1);k:=@lfunc(c chan int){print(1);j:=@nfunc(){c<-1};close(c)};k=nil}", "l:cp m:x n:s", "")
	hold(t, "@mfunc main(){c:=make(chan func());c<-@lfunc(){print(1)}}", "l:p m:s", "")
}

// TestCalls: M1: what functions can do that calls can call.
func TestCalls(t *testing.T) {
	hold(t, "@ffunc f(){print(1)};@mfunc main(){f@1()}", "f:p m:p", "")
	hold(t, "@ffunc f(){print(1)};@gfunc g(){f@1();panic(2)};@hfunc h(c chan int){g@2();<-c};@mfunc main(){h@3(nil);c:=make(chan int);close(c)}", "f:p g:px h:prx m:cprx", "")
	// The other way round it is not handed on, nor to who calls another one.
	hold(t, "@ffunc f(){};@gfunc g(){f@1();print(1)};@hfunc h(){f@2()};@mfunc main(){g@3();h@4()}", "g:p m:p", "124")
	// What is named is not called.
	hold(t, "@ffunc f(){print(1)};@mfunc main(){h:=f}", "f:p", "")
	// By a variable each one that can be there, wherever that stands.
	hold(t, "@ffunc f(){print(1)};@gfunc g(){panic(1)};@mfunc main(){h:=f;h@1();return;h=g}", "f:p g:x m:px", "")
	hold(t, "@ffunc f(){print(1)};@gfunc g(h func()){h@1()};@hfunc h(){g@2(nil)};@mfunc main(){g@3(f);g@4(@lfunc(){panic(1)})}", "f:p g:px h:px l:x m:px", "")
	hold(t, "type A struct{f func()};@ffunc f(){print(1)};@mfunc main(){a:=new(A);a.f@1();b:=new(A);b.f=f}", "f:p", "")
	hold(t, "@ffunc f(){print(1)};@gfunc g(c chan func()){(<-c)@1()};@mfunc main(){c:=make(chan func(),1);c<-f;g@2(c)}", "f:p g:pr m:prs", "")
	hold(t, "@ffunc f()func(){return @lfunc(){print(1)}};@gfunc g(){f@1()};@mfunc main(){f@2()@3()}", "l:p m:p", "12")
	hold(t, "@mfunc main(){@lfunc(){print(1)}@1()}", "l:p m:p", "")
	// In what is called, in values, within one another, in conditions, channels, cases.
	hold(t, "@ffunc f(n int)int{print(n);return n};@gfunc g(n int)int{return n};@hfunc h(){g@1(f@2(g@3(1)))};@mfunc main(){}", "f:p h:p", "13")
	hold(t, "@ffunc f()bool{print(1)};@gfunc g(){if f@1(){}};@hfunc h(){for true&&f@2(){}};@mfunc main(){return;x:=!f@3()}", "f:p g:p h:p m:p", "")
	hold(t, "@ffunc f()chan int{print(1)};@gfunc g(){close(f@1())};@hfunc h(){select{case <-f@2():}};@ifunc i(){select{case f@3()<-1:}};@mfunc main(){<-f@4()}", "f:p g:cp h:pr i:ps m:pr", "")
	// Calls in a literal are the literal's.
	hold(t, "@ffunc f(){print(1)};@mfunc main(){k:=@lfunc(){f@1()}}", "f:p l:p", "")
	hold(t, "@ffunc f(){print(1)};@mfunc main(){k:=@lfunc(){f@1()};k@2()}", "f:p l:p m:p", "")
	hold(t, "@ffunc f(){print(1)};@mfunc main(){k:=@lfunc(){j:=@nfunc(){f@1()}};k@2()}", "f:p n:p", "2")
}

// things has structs, and interfaces that they have.
const things = "type A struct{};type B struct{};type C struct{};type I interface{m()};type J interface{m();o()};" +
	"@afunc(x *A)m(){};@bfunc(x *B)m(){print(1)};@cfunc(x *B)o(){};@dfunc(x *C)m(){panic(1)};"

// TestMethods: M1, M2: by methods, of structs and of interfaces.
func TestMethods(t *testing.T) {
	const own = "b:p d:x"
	hold(t, things+"@mfunc main(){new(A).m@1();new(B).o@2()}", own, "12")
	hold(t, things+"@mfunc main(){new(A).m@1();new(B).m@2()}", own+" m:p", "1")
	// Also if but nil can stand ahead.
	hold(t, things+"@mfunc main(){c:=make(chan *C);(<-c).m@1()}", own+" m:rx", "")
	// Of those that can stand ahead of an interface's.
	hold(t, things+"@ffunc f(i I){i.m@1()};@mfunc main(){f@2(new(A))}", own, "12")
	hold(t, things+"@ffunc f(i I){i.m@1()};@mfunc main(){f@2(new(A));f@3(new(B))}", own+" f:p m:p", "")
	hold(t, things+"@ffunc f(i I){i.m@1()};@mfunc main(){f@2(new(A));f@3(new(B));f@4(new(C))}", own+" f:px m:px", "")
	hold(t, things+"@ffunc f(j J){j.o@1()};@mfunc main(){f@2(new(B));f@3(nil)}", own, "123")
	// What an assertion does not let through is not called by it.
	hold(t, things+"type E interface{m()};@ffunc f(i I){g@1(i.(*B))};@gfunc g(e E){e.m@2()};@mfunc main(){f@3(new(A));x:=new(C)}", own, "13")
	// A method with what stands ahead.
	hold(t, things+"@mfunc main(){f:=new(A).m;f@1();g:=new(C).m}", own, "1")
	hold(t, things+"@ffunc f(i I)func(){return i.m};@mfunc main(){f@1(new(A))@2();f@3(new(C))}", own+" m:x", "13")
}

// TestGo: M1, M2: what the KCall of a KGo can call is not done by who starts it; what stands in its parts is.
func TestGo(t *testing.T) {
	hold(t, "@ffunc f(){print(1)};@mfunc main(){go f@1()}", "f:p m:g", "")
	hold(t, "@ffunc f(){print(1)};@gfunc g(){go f@1()};@mfunc main(){g@2()}", "f:p g:g m:g", "")
	hold(t, "@ffunc f(){print(1)};@mfunc main(){go f@1();f@2()}", "f:p m:gp", "")
	hold(t, "@mfunc main(){go @lfunc(){print(1)}@1()}", "l:p m:g", "")
	hold(t, "type A struct{};@afunc(x *A)m(){print(1)};@mfunc main(){go new(A).m@1()}", "a:p m:g", "")
	// The started one's own calls are its own.
	hold(t, "@ffunc f(){print(1)};@mfunc main(){go @lfunc(){f@1()}@2()}", "f:p l:p m:g", "")
	hold(t, "@ffunc f(n int)int{print(n)};@gfunc g(n int){panic(n)};@mfunc main(){go g@1(f@2(1))}", "f:p g:x m:gp", "")
	hold(t, "@ffunc f()func(){print(1)};@mfunc main(){go f@1()@2()}", "f:p m:gp", "")
	hold(t, "@ffunc f()func(int){return @lfunc(n int){panic(n)}};@gfunc g()int{};@mfunc main(){go f@1()@2(g@3());c:=make(chan int);go f@4()@5(<-c)}", "l:x m:gr", "134")
	// Quiet it is neither, whatever it can call; nor one with brackets around.
	hold(t, "@ffunc f(){};@mfunc main(){go f@1();f@2();go (f@3())}", "m:g", "2")
	// A KGo in a function that is called counts, though nothing is done by it.
	hold(t, "@ffunc f(){};@gfunc g(){go f@1()};@mfunc main(){g@2();f@3()}", "g:g m:g", "3")
}

// TestRounds: M1: those that come to themselves again do what all of them do, and nothing by themselves.
func TestRounds(t *testing.T) {
	hold(t, "@ffunc f(){f@1()};@mfunc main(){f@2()}", "", "12")
	hold(t, "@ffunc f(){f@1();print(1)};@mfunc main(){f@2()}", "f:p m:p", "")
	hold(t, "@ffunc f(){g@1()};@gfunc g(){h@2()};@hfunc h(){f@3()};@mfunc main(){g@4()}", "", "1234")
	hold(t, "@ffunc f(c chan int){g@1(c);close(c)};@gfunc g(c chan int){h@2(c);print(1)};@hfunc h(c chan int){f@3(c);panic(1)};@mfunc main(){g@4(nil)}", "f:cpx g:cpx h:cpx m:cpx", "")
	// From one round to another one, and not back.
	hold(t, "@ffunc f(){g@1();print(1)};@gfunc g(){f@2();h@3()};@hfunc h(){k@4();panic(1)};@kfunc k(){h@5()};@mfunc main(){}", "f:px g:px h:x k:x", "")
	hold(t, "@ffunc f(){g@1();print(1)};@gfunc g(){f@2();h@3()};@hfunc h(){k@4()};@kfunc k(){h@5()};@mfunc main(){k@6()}", "f:p g:p", "3456")
	// A round by a KGo hands nothing on.
	hold(t, "@ffunc f(){g@1();print(1)};@gfunc g(){go f@2()};@mfunc main(){}", "f:gp g:g", "")
	hold(t, "@mfunc main(){h:=@lfunc(){};h=@kfunc(){h@1()};h@2()}", "", "12")
	hold(t, "@mfunc main(){h:=@lfunc(){print(1)};h=@kfunc(){h@1()}}", "k:p l:p", "")
}

// TestQuiet: M2.
func TestQuiet(t *testing.T) {
	hold(t, "@ffunc f(){};@gfunc g(){print(1)};@mfunc main(){f@1();g@2();f@3()}", "g:p m:p", "13")
	// All that can be called have to do nothing.
	hold(t, "@ffunc f(){};@gfunc g(){};@mfunc main(){h:=f;h=g;h@1()}", "", "1")
	hold(t, "@ffunc f(){};@gfunc g(){print(1)};@mfunc main(){h:=f;h=g;h@1()}", "g:p m:p", "")
	hold(t, "@ffunc f(){print(1)};@gfunc g(){};@mfunc main(){h:=f;h=g;h@1()}", "f:p m:p", "")
	// What can call nobody is not quiet.
	hold(t, "type A struct{f func()};type I interface{m()};@ffunc f(i I){i.m@1()};@mfunc main(){a:=new(A);a.f@2();f@3(nil);c:=make(chan func());(<-c)@4()}", "m:r", "3")
	// Each kind of what is done is not quiet.
	hold(t, "@ffunc f(c chan int){c<-1};@mfunc main(){f@1(nil)}", "f:s m:s", "")
	hold(t, "@ffunc f(c chan int){<-c};@mfunc main(){f@1(nil)}", "f:r m:r", "")
	hold(t, "@ffunc f(c chan int){close(c)};@mfunc main(){f@1(nil)}", "f:c m:c", "")
	hold(t, "@ffunc f(c chan int){go f@1(c)};@mfunc main(){f@2(nil)}", "f:g m:g", "")
	hold(t, "@ffunc f(c chan int){panic(1)};@mfunc main(){f@1(nil)}", "f:x m:x", "")
	hold(t, "@ffunc f(c chan int){select{case c<-1:default:}};@mfunc main(){f@1(nil)}", "f:s m:s", "")
	hold(t, "@ffunc f(c chan int){select{case <-c:default:}};@mfunc main(){f@1(nil)}", "f:r m:r", "")
	hold(t, "@ffunc f(c chan int){select{default:}};@mfunc main(){f@1(nil)}", "", "1")
	// Who stands around, and what the values do, does not matter.
	hold(t, "@ffunc f(n int)int{return n};@mfunc main(){c:=make(chan int);print(f@1(<-c));panic(f@2(3))}", "m:prx", "12")
	// In what is not met, in literals, where one does not come.
	hold(t, "@ffunc f(){};@gfunc g(){f@1();k:=@lfunc(){f@2();f@3()}};@mfunc main(){return;f@4();print(1)}", "m:p", "1234")
	// What just falls does nothing.
	hold(t, "@ffunc f(n int)int{return 1/n};@mfunc main(){x:=f@1(0)}", "", "1")
}

// TestExample: the numbers of nodes.
func TestExample(t *testing.T) {
	// nodes: 0 sig, 1 block, 2 f; 3 sig, 4 1, 5 print, 6 block, 7 g; 8 sig, 9 f, 10 f(), 11 do, 12 g, 13 g(), 14 do, 15 g, 16 g(), 17 go, 18 block, 19 main; 20 program
	text := "func f(){};func g(){print(1)};func main(){f();g();go g()}"
	of, first := Of(text)
	quiet, second := Quiet(text)
	if got := fmt.Sprint(of, first); got != "[[] [] [] [] [] [] [] [32] [] [] [] [] [] [] [] [] [] [] [] [21 32] []] {0 0}" {
		t.Error(got)
	}
	if got := fmt.Sprint(quiet, second); got != "[10] {0 0}" {
		t.Error(got)
	}
	of, first = Of("func main(){c:=make(chan int);print(<-c);panic(1);close(c);go main();select{case c<-1:case <-c:}}")
	if got := fmt.Sprint(of[len(of)-2], first); got != "[20 21 30 31 32 45] {0 0}" {
		t.Error(got)
	}
}

// TestFaults: both answer Check's fault, and nothing else.
func TestFaults(t *testing.T) {
	for _, x := range []struct {
		text string
		code api.Errno
	}{
		{"", api.ErrMain},
		{"func f(){print(1);f()}", api.ErrMain},
		{"func main(n int){print(n)}", api.ErrMain},
		{strings.Repeat(" ", api.MaxText+1), api.ErrSize},
		{"func main(){print(\xff)}", api.ErrRune},
		{"func main(){print(1}", api.ErrSyntax},
		{"func main(){print" + strings.Repeat("(", 40) + "1" + strings.Repeat(")", 40) + "}", api.ErrDeep},
		{"func main(){" + strings.Repeat("main();", 600) + "}", api.ErrFull},
		{"func main(){f()}", api.ErrName},
		{"func f(){};func f(){print(1)};func main(){f()}", api.ErrTwice},
		{"func main(){select{default:default:}}", api.ErrTwice},
		{"func main(){h:=1;h()}", api.ErrType},
		{"func main(){panic(true)}", api.ErrType},
		{"func main(){go 1}", api.ErrType},
		{"func main(){close(1)}", api.ErrType},
		{"func f(n int){};func main(){f()}", api.ErrCount},
		{"func main(){c:=make(chan int,9);<-c}", api.ErrRange},
	} {
		_, want := check.Check(x.text)
		if want.Code != x.code {
			t.Fatalf("%q: %v", x.text, want)
		}
		of, first := Of(x.text)
		quiet, second := Quiet(x.text)
		if first != want || second != want || len(of)+len(quiet) > 0 {
			t.Errorf("%q: %v, %v, not %v; %v, %v", x.text, first, second, want, of, quiet)
		}
	}
}

// TestNewMemory: P3: what is answered is not kept, no two lists share memory, and the same is answered again.
func TestNewMemory(t *testing.T) {
	text, _ := unmark(things + "func f(i I){i.m();g(i)};func g(i I){f(i);h:=i.m;h=func(){h();print(1)};h()};func k(){k();go k()};func e(){};func main(){f(new(A));g(new(C));e();e()}")
	ask := func() string {
		of, first := Of(text)
		quiet, second := Quiet(text)
		all := fmt.Sprint(of, quiet, first, second)
		for _, list := range append(of, quiet) {
			list = list[:cap(list)]
			for i := range list {
				if list[i] == -9 {
					t.Fatal("two lists share memory")
				}
				list[i] = -9
			}
		}
		return all
	}
	want := ask()
	for range 50 {
		if got := ask(); got != want {
			t.Fatalf("%s, not %s", got, want)
		}
	}
}

// TestGreat: P1: programs as great as may be, in which much is called.
func TestGreat(t *testing.T) {
	name := func(i int) string { return "_" + strconv.FormatInt(int64(i), 36) }
	// Each one calls the next one, or the one ahead.
	next, back := "", "func "+name(0)+"(){%};"
	for i := range 190 {
		next += "func " + name(i) + "(){" + name(i+1) + "()};"
		back += "func " + name(i+1) + "(){" + name(i) + "()};"
	}
	next += "func " + name(190) + "(){%};"
	// Each literal can call all of them; each of many calls can call each of many literals.
	all := "func main(){h:=main;" + strings.Repeat("h=func(){h()};", 140) + "h=func(){%}}"
	many := "func main(){h:=func(){%};" + strings.Repeat("h=func(){};", 110) + strings.Repeat("h();", 200) + "}"
	for _, x := range []struct {
		text                string
		calls, doers, deeds int
	}{
		{next + "func main(){" + name(0) + "()}", 191, 192, 6},
		{back + "func main(){" + name(190) + "()}", 191, 192, 6},
		{all, 140, 141, 6},
		{many, 200, 2, 6},
	} {
		for _, does := range []string{"", "print(1);c:=make(chan int);c<-<-c;close(c);go func(){}();panic(1)"} {
			text := strings.Replace(x.text, "%", does, 1)
			of, fault := Of(text)
			quiet, second := Quiet(text)
			doers, deeds := 0, 0
			for _, list := range of {
				doers += min(len(list), 1)
				deeds = max(deeds, len(list))
			}
			ok := fault.Code == api.OK && second.Code == api.OK
			if does == "" {
				ok = ok && doers == 0 && len(quiet) == x.calls
			} else {
				ok = ok && doers == x.doers && deeds == x.deeds && len(quiet) == 0
			}
			if !ok {
				t.Errorf("%.60q: %v, %v: %d can do something, up to %d kinds, %d are quiet", text, fault, second, doers, deeds, len(quiet))
			}
		}
	}
}
