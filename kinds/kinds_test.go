package kinds

import (
	"fmt"
	"slices"
	"strconv"
	"strings"
	"testing"

	"ravel/api"
	"ravel/check"
	"ravel/syntax"
)

// unmark takes the marks (@ and a sign) out of a text, and answers which ones stood ahead of which byte.
func unmark(marked string) (string, map[int]string) {
	var text strings.Builder
	marks := map[int]string{}
	for i := 0; i < len(marked); i++ {
		if marked[i] == '@' {
			i++
			marks[text.Len()] = marked[i : i+1]
			continue
		}
		text.WriteByte(marked[i])
	}
	return text.String(), marks
}

// tell asks both faces of a marked text: of each node of which structs are told, its sign, a colon, and these, a comma between two; of each one of which it is not told that it is no assertion, its sign and what is told; both sorted. Nodes that are not marked are their numbers.
func tell(t *testing.T, marked string) (types, asserts string) {
	t.Helper()
	text, marks := unmark(marked)
	nodes, fault := syntax.Parse(text)
	lists, first := Types(text)
	ways, second := Asserts(text)
	if fault.Code+first.Code+second.Code != api.OK || len(lists) != len(nodes) || len(ways) != len(nodes) {
		t.Fatalf("%q: %v, %v, %v; %d, %d", text, fault, first, second, len(lists), len(ways))
	}
	var a, b []string
	for number, n := range nodes {
		mark := marks[n.At]
		if mark == "" {
			mark = fmt.Sprintf("<%d>", number)
		}
		if len(lists[number]) > 0 {
			a = append(a, mark+":"+strings.Join(lists[number], ","))
		}
		if ways[number] != -1 {
			b = append(b, mark+strconv.Itoa(ways[number]))
		}
	}
	slices.Sort(a)
	slices.Sort(b)
	return strings.Join(a, " "), strings.Join(b, " ")
}

// things has structs that all have the first interface; A and B have the others, too.
const things = "type A struct{i I;j J;a *A};type B struct{i I;c chan I};type C struct{f func(I)I};type I interface{};type J interface{m()};type K interface{m();o(i I)I};" +
	"func(x *A)m(){};func(x *B)m(){};func(x *A)o(i I)I{return nil};func(x *B)o(i I)I{return x};"

// hold holds what is told of a marked text, ahead of which stand the things.
func hold(t *testing.T, marked, types, asserts string) {
	t.Helper()
	gotTypes, gotAsserts := tell(t, things+marked)
	if gotTypes != types || gotAsserts != asserts {
		t.Errorf("%q:\n%q and %q,\nnot\n%q and %q", marked, gotTypes, gotAsserts, types, asserts)
	}
}

// TestTypes: K1: expressions of all kinds that can have an interface's type.
func TestTypes(t *testing.T) {
	// Names of params, of variables, of what a case receives; also of one that is set.
	hold(t, "func f(i I){print(@ai==nil)};func main(){f(new(A))}", "a:A", "")
	hold(t, "func f(i I){k:=@ai;print(@bk==nil);@ck=new(B);@di=@ek};func main(){f(new(A))}", "a:A,B b:A,B c:A,B d:A,B e:A,B", "")
	hold(t, "func main(){c:=make(chan I,1);c<-new(C);select{case x:=<-c:print(@ax==nil);case <-c:}}", "a:C", "")
	// Fields, also those that are set.
	hold(t, "func main(){a:=new(A);b:=new(B);a@a.i=new(B);a@b.j=a;print(a@c.i==b@d.i)}", "a:B b:A c:B", "")
	// What comes back, what is received.
	hold(t, "func f()I{return new(C)};func main(){print(f@a()==nil);print(func()J{return new(A)}@b()==nil);print(new(B).o@c(nil)==nil);print(new(A).o@d(nil)==nil)}", "a:C b:A c:B", "")
	hold(t, "func main(){c:=make(chan J);c<-new(A);print(@a<-c==nil);c<-new(B);@b<-c;print((@c<-make(chan J))==nil)}", "a:A,B b:A,B", "")
	hold(t, "func f()I{return new(A)};func main(){go f@a()}", "a:A", "")
	// An interface gives to another one.
	hold(t, "func f(i I){@ai=nil};func g(j J){f(@bj)};func main(){g(new(B));f(new(C))}", "a:B,C b:B", "")
	// By an interface's method.
	hold(t, "func f(k K,i I){print(@ak.o@b(@ci)==nil)};func main(){f(new(B),new(C));f(new(A),nil)}", "a:A,B b:B c:C", "")
	// Where one does not come, and what nobody calls.
	hold(t, "func f(i I){return;@ai=new(A)};func g(i I){f(new(B));print(@bi==nil)};func main(){f(new(C))}", "a:A,B,C", "")
}

// TestOthers: K1: of all else nothing is told.
func TestOthers(t *testing.T) {
	// Pointers, channels and functions of interfaces; nil; numbers and truth values.
	hold(t, "func main(){a:=new(A);a.a=a;print(a.a==a)}", "", "")
	hold(t, "func main(){b:=new(B);b.c=make(chan I);b.c<-new(A);c:=new(C);c.f=func(x I)I{return new(A)};f:=c.f;g:=b.o;g=f}", "", "")
	hold(t, "func main(){c:=make(chan I);c<-nil;c<-new(A);close(c)}", "", "")
	hold(t, "func f(i I){print(1+2==3);print(!true);print(-1)};func main(){f(nil);f(new(A))}", "", "")
	// Of an assertion, which has a pointer's type; and of nodes that are no expressions.
	hold(t, "func f(i I)I{k:=@ai@b.(*A);return k};func main(){x:=f@c(new(A));select{}}", "a:A c:A", "b2")
	// Nothing is there.
	hold(t, "func f(i I,j J){i=j;j=nil;i=j};func main(){a:=new(A);f(a.i,a.j);i:=a.i;print(i==nil)}", "", "")
}

// TestNames: K1: each name once, in the order of their bytes.
func TestNames(t *testing.T) {
	for _, x := range []struct{ made, told string }{
		{"a", "a"},
		{"a a a", "a"},
		{"b a b a", "a,b"},
		{"b a aa _ Z a1 B a_ aB Aa z9", "Aa,B,Z,_,a,a1,aB,a_,aa,b,z9"},
		{"structs struct_ typ nilly intA Int", "Int,intA,nilly,struct_,structs,typ"},
	} {
		decls, calls := "type I interface{};", ""
		for i, name := range strings.Fields(x.made) {
			if !slices.Contains(strings.Fields(x.made)[:i], name) {
				decls += "type " + name + " struct{};"
			}
			calls += "f(new(" + name + "));"
		}
		types, asserts := tell(t, decls+"func f(i I){print(@xi==nil)};func main(){"+calls+"}")
		if types != "x:"+x.told || asserts != "" {
			t.Errorf("%q: %q, %q", x.made, types, asserts)
		}
	}
}

// TestAsserts: K2: by what is in the expression's set.
func TestAsserts(t *testing.T) {
	// Nothing; nil; just others.
	hold(t, "func f(i I){i@b.(*A).a=nil};func main(){}", "", "b0")
	hold(t, "func f(i I){i@b.(*A).a=nil};func main(){f(nil)}", "", "b0")
	hold(t, "func f(i I){@ai@b.(*A).a=nil};func main(){f(new(B))}", "a:B", "b0")
	hold(t, "func f(i I){@ai@b.(*A).a=nil};func main(){f(new(B));f(new(C));f(new(B));f(nil)}", "a:B,C", "b0")
	// Some others, too.
	hold(t, "func f(i I){@ai@b.(*A).a=nil};func main(){f(new(B));f(new(A))}", "a:A,B", "b1")
	hold(t, "func f(i I){@ai@b.(*A).a=nil};func main(){f(new(A));f(new(A));f(new(A));f(new(C))}", "a:A,C", "b1")
	hold(t, "func f(i I){@ai@b.(*A).a=nil};func main(){f(new(C));f(new(B));f(new(B));f(new(A))}", "a:A,B,C", "b1")
	// Just these, one or more; nil is not told.
	hold(t, "func f(i I){@ai@b.(*A).a=nil};func main(){f(new(A))}", "a:A", "b2")
	hold(t, "func f(i I){@ai@b.(*A).a=nil};func main(){f(new(A));f(nil);f(new(A))}", "a:A", "b2")
	// Several of one expression, of several structs.
	hold(t, "func f(i I){x:=@ai@b.(*A);y:=@ci@d.(*B);z:=@ei@g.(*C);x=@hi@j.(*A)};func main(){f(new(A));f(new(B))}", "a:A,B c:A,B e:A,B h:A,B", "b1 d1 g0 j1")
	hold(t, "func f(i I){x:=@ai@b.(*A);y:=@ci@d.(*B)};func main(){f(new(A));f(new(A))}", "a:A c:A", "b2 d0")
	// What an assertion lets through is put back.
	hold(t, "func f(i I){g(@ai@b.(*A))};func g(i I){x:=@ci@d.(*A);y:=@ei@g.(*B)};func main(){f(new(A));f(new(B))}", "a:A,B c:A e:A", "b1 d2 g0")
}

// TestExpressions: K2: of whatever kind the expression is, wherever it stands.
func TestExpressions(t *testing.T) {
	hold(t, "func main(){a:=new(A);a@a.i=new(B);x:=a@b.i@c.(*B);y:=a.j@d.(*A);z:=a@e.i@f.(*A)}", "a:B b:B e:B", "c2 d0 f0")
	hold(t, "func f()J{return new(A)};func main(){x:=f@a()@b.(*A);y:=f@c()@d.(*B);z:=new(B).o@e(nil)@f.(*B)}", "a:A c:A e:B", "b2 d0 f2")
	hold(t, "func main(){c:=make(chan I,2);c<-new(A);x:=(@a<-c)@b.(*A);c<-new(C);y:=(@c<-c)@d.(*C)}", "a:A,C c:A,C", "b1 d1")
	// In a literal, a condition, a value, a case, what is sent; where one does not come.
	hold(t, "func f(i I){go func(){x:=@ai@b.(*B)}();if @ci@d.(*A)==nil{return};return;x:=@ei@g.(*C)};func main(){f(new(A))}", "a:A c:A e:A", "b0 d2 g0")
	hold(t, "func main(){c:=make(chan I,2);d:=make(chan *A);select{case x:=<-c:d<-@ax@b.(*A);case c<-new(A):case d<-(@c<-c)@d.(*A):}}", "a:A c:A", "b2 d2")
	// Not of what the variable has there, but of all that it can have.
	hold(t, "func f(i I){@ai=new(A);x:=@bi@c.(*A);@di=new(B);y:=@ei@g.(*B)};func main(){f(nil)}", "a:A,B b:A,B d:A,B e:A,B", "c1 g1")
}

// TestExample: the numbers of nodes.
func TestExample(t *testing.T) {
	// nodes: 0 I, 1 A, 2 B; 3 named, 4 param, 5 pointer, 6 sig, 7 i, 8 pointer, 9 assert, 10 return, 11 block, 12 f;
	// 13 sig, 14 f, 15 new(A), 16 call, 17 define, 18 block, 19 main; 20 program
	text := "type I interface {};type A struct {};type B struct {};func f(i I) *A {return i.(*A)};func main(){a:=f(new(A))}"
	types, fault := Types(text)
	if got := fmt.Sprint(types, fault); got != "[[] [] [] [] [] [] [] [A] [] [] [] [] [] [] [] [] [] [] [] [] []] {0 0}" {
		t.Error(got)
	}
	asserts, fault := Asserts(text)
	if got := fmt.Sprint(asserts, fault); got != "[-1 -1 -1 -1 -1 -1 -1 -1 -1 2 -1 -1 -1 -1 -1 -1 -1 -1 -1 -1 -1] {0 0}" {
		t.Error(got)
	}
}

// TestFaults: both answer Check's fault, and nothing else.
func TestFaults(t *testing.T) {
	const decls = "type A struct{};type I interface{};type J interface{m()};"
	for _, x := range []struct {
		text string
		code api.Errno
	}{
		{"", api.ErrMain},
		{decls + "func f(i I)*A{return i.(*A)}", api.ErrMain},
		{decls + "func main(i I){i=i.(*A)}", api.ErrMain},
		{strings.Repeat(" ", api.MaxText+1), api.ErrSize},
		{decls + "func f(i I){i=i.(*A)};func main(){f(\xff)}", api.ErrRune},
		{decls + "func f(i I){i=i.(*A};func main(){}", api.ErrSyntax},
		{decls + "func f(i I){i=i.(type)};func main(){}", api.ErrSyntax},
		{decls + "func f(i I){i=" + strings.Repeat("(", 40) + "i" + strings.Repeat(")", 40) + ".(*A)};func main(){}", api.ErrDeep},
		{decls + "func f(i I){" + strings.Repeat("i=i.(*A);", 300) + "};func main(){}", api.ErrFull},
		{decls + "func f(i I){i=i.(*B)};func main(){}", api.ErrName},
		{decls + "func f(i I){i=k.(*A)};func main(){}", api.ErrName},
		{decls + "type A interface{};func main(){}", api.ErrTwice},
		// An assertion of what is no interface's; to what is no pointer; to what can't be there.
		{decls + "func main(){a:=new(A).(*A)}", api.ErrType},
		{decls + "func main(){a:=nil.(*A)}", api.ErrType},
		{decls + "func f(j J){i:=j.(I)};func main(){}", api.ErrType},
		{decls + "func f(i I){k:=i.(int)};func main(){}", api.ErrType},
		{decls + "func f(j J){a:=j.(*A)};func main(){}", api.ErrType},
		{decls + "func f(j J){};func main(){f(new(A))}", api.ErrType},
		{decls + "func f(i I){i.(*A)};func main(){}", api.ErrType},
		{decls + "func f(i I){};func main(){f()}", api.ErrCount},
		{decls + "func main(){c:=make(chan I,9);i:=(<-c).(*A)}", api.ErrRange},
	} {
		_, want := check.Check(x.text)
		if want.Code != x.code {
			t.Fatalf("%q: %v", x.text, want)
		}
		types, first := Types(x.text)
		asserts, second := Asserts(x.text)
		if first != want || second != want || len(types)+len(asserts) > 0 {
			t.Errorf("%q: %v, %v, not %v; %v, %v", x.text, first, second, want, types, asserts)
		}
	}
}

// TestNewMemory: P3: what is answered is not kept, no two lists share memory, and the same is answered again.
func TestNewMemory(t *testing.T) {
	text := things + "func f(i I,k K)I{x:=i;y:=x;i=x.(*B);j:=new(A).j;j=k;j=new(B);return k.o(y.(*A))};func main(){f(new(A),new(B));f(new(C),nil);f(new(B),new(A));f(new(A),nil)}"
	ask := func() string {
		types, first := Types(text)
		asserts, second := Asserts(text)
		all := fmt.Sprint(types, asserts, first, second)
		for _, list := range types {
			list = list[:cap(list)]
			for i := range list {
				if list[i] == "-9" {
					t.Fatal("two lists share memory")
				}
				list[i] = "-9"
			}
		}
		for i := range asserts {
			asserts[i] = -9
		}
		return all
	}
	want := ask()
	for range 50 {
		if got := ask(); got != want {
			t.Fatalf("%s, not %s", got, want)
		}
	}
}

// TestGreat: P1: programs as great as may be, in which much comes to interfaces.
func TestGreat(t *testing.T) {
	// As many structs as can be, of all of which things come everywhere.
	decls, sets, names := "type I interface{};", "", 130
	for i := range names {
		name := "_" + strconv.FormatInt(int64(i), 36)
		decls += "type " + name + " struct{};"
		sets += "i=new(" + name + ");"
	}
	structs := decls + "func f(i I){" + sets + strings.Repeat("i=i;", 170) + "};func main(){}"
	// Many things of few structs, and as many assertions.
	many := "type I interface{};type A struct{};type B struct{};func f(i I){i=new(A);" + strings.Repeat("i=new(B);", 150) + strings.Repeat("i=i.(*B);", 140) + "};func main(){}"
	for _, x := range []struct {
		text            string
		told, ways, way int
	}{
		{structs, names * (names + 2*170), 0, 0},
		{many, 2 * (151 + 2*140), 140, 140},
	} {
		types, fault := Types(x.text)
		asserts, _ := Asserts(x.text)
		ways, way := 0, 0
		for _, code := range asserts {
			if code >= 0 {
				ways++
				way += code
			}
		}
		if got := len(slices.Concat(types...)); fault.Code != api.OK || got != x.told || ways != x.ways || way != x.way {
			t.Errorf("%.60q: %v: %d names, %d assertions, %d in all", x.text, fault, got, ways, way)
		}
	}
}
