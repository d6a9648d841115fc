package share

import (
	"fmt"
	"slices"
	"strings"
	"testing"

	"ravel/api"
	"ravel/check"
	"ravel/points"
	"ravel/syntax"
)

// unmark takes the marks (@ and a sign) out of a text, and answers which ones stood ahead of which byte.
func unmark(marked string) (string, map[int]string) {
	var text strings.Builder
	marks := map[int]string{}
	for i := 0; i < len(marked); i++ {
		if marked[i] == '@' {
			i++
			marks[text.Len()] = marked[i : i+1]
			continue
		}
		text.WriteByte(marked[i])
	}
	return text.String(), marks
}

// tell asks both faces of a marked text: the signs of what is given, and of what is kept, both sorted. Nodes that are not marked are their numbers.
func tell(t *testing.T, marked string) (given, kept string) {
	t.Helper()
	text, marks := unmark(marked)
	nodes, fault := syntax.Parse(text)
	sites, first := Sites(text)
	keeps, second := Keeps(text)
	if fault.Code+first.Code+second.Code != api.OK {
		t.Fatalf("%q: %v, %v, %v", text, fault, first, second)
	}
	words := func(list []int) string {
		if !slices.IsSorted(list) || len(slices.Compact(slices.Clone(list))) != len(list) {
			t.Errorf("%q: %v is not rising", text, list)
		}
		var out []string
		for _, number := range list {
			if mark := marks[nodes[number].At]; mark != "" {
				out = append(out, mark)
			} else {
				out = append(out, fmt.Sprintf("<%d>", number))
			}
		}
		slices.Sort(out)
		return strings.Join(out, "")
	}
	return words(sites), words(keeps)
}

// hold holds what is told of a marked text, ahead of which stand these decls.
func hold(t *testing.T, decls, marked, given, kept string) {
	t.Helper()
	gotGiven, gotKept := tell(t, decls+marked)
	if gotGiven != given || gotKept != kept {
		t.Errorf("%q:\n%q, %q,\nnot\n%q, %q", marked, gotGiven, gotKept, given, kept)
	}
}

// things has structs, an interface that both of them have, and functions that do nothing with what they are handed.
const things = "type A struct{n *A;o *A;i I;f func();c chan *A;k int};type B struct{a *A;b *B};type I interface{m(a *A)};" +
	"func(x *A)m(y *A){};func(x *B)m(y *A){};@Tfunc take(a *A){};@Ufunc none(){};"

// TestNone: T1, T3: where no thread is begun, nothing is given, and all stays.
func TestNone(t *testing.T) {
	hold(t, "", "func main(){}", "", "")
	hold(t, things, "func main(){}", "", "")
	hold(t, things, "func main(){a:=@1new(A);a.n=@2new(A);take(a);f:=func(){a=@3new(A)};f();c:=make(chan *A,1);c<-a;a.f=none;a.i=@4new(B);a.i.m(a)}", "", "1234")
	// A go that begins nothing of them: just what is called is given.
	hold(t, things, "func main(){a:=@1new(A);go none();a.n=@2new(B).a}", "U", "12")
	hold(t, things, "func main(){a:=@1new(A);go @Lfunc(){}();a.n=a}", "L", "1")
}

// TestParts: T1: what is called by a KGo, and its values.
func TestParts(t *testing.T) {
	hold(t, things, "func main(){go take(@1new(A));@2new(A).m(nil)}", "1T", "2")
	hold(t, things, "func main(){a:=@1new(A);b:=a;c:=@2new(A);go take(b)}", "1T", "2")
	hold(t, things, "func main(){a:=@1new(A);a=@2new(A);b:=@3new(A);go take(a);a=nil}", "12T", "3")
	// Each value.
	hold(t, things, "@ffunc f(a *A,n int,b *B,c chan int,i I,g func()){};func main(){go f(@1new(A),3,@2new(B),@3make(chan int,1),@4new(B),@5func(){});@6new(A).n=nil}", "12345f", "6")
	// Nil, numbers and truth values are no things.
	hold(t, things, "@ffunc f(a *A,n int,b bool){};func main(){go f(nil,1,true)}", "f", "")
	// All that can be called; of a function's name the function.
	hold(t, things, "@ffunc f(){};func main(){h:=f;h=none;h=@Lfunc(){};go h();k:=@Mfunc(){}}", "LUf", "")
	hold(t, things, "@mfunc main(){go main()}", "m", "")
	hold(t, things, "@ffunc f()func(){return @Lfunc(){}};func main(){go f()();g:=@Mfunc(){}}", "L", "")
	// Just the parts themselves: what stands within them is done ahead.
	hold(t, things, "@ffunc f(a *A)*A{return nil};func main(){go take(f(@1new(A)))}", "T", "1")
	hold(t, things, "@ffunc f(a *A)*A{return a};func main(){go take(f(@1new(A)))}", "1T", "")
	hold(t, things, "@ffunc f(b bool){};func main(){go f(@1new(A)==@2new(A).n)}", "f", "12")
	hold(t, things, "func main(){a:=@1new(A);a.n=@2new(A);go take(a.n)}", "2T", "1")
	hold(t, things, "func main(){c:=@1make(chan *A,1);c<-@2new(A);go take(<-c)}", "2T", "")
	hold(t, things, "func main(){i:=@1new(A).i;i=@2new(A);i=@3new(B);go take(i.(*A))}", "2T", "13")
	// Where one does not come, and what is not met, counts, too.
	hold(t, things, "func main(){a:=@1new(A);return;go take(a)}", "1T", "")
	hold(t, things, "func f(a *A){go take(a)};func main(){a:=@1new(A);f(a);f(@2new(A));b:=@3new(A)}", "12T", "3")
	hold(t, things, "func f(){go take(@1new(A))};func main(){b:=@3new(A)}", "1T", "3")
	hold(t, things, "func main(){f:=func(){go take(@1new(A))};@2new(A).m(nil)}", "1T", "2")
	// Nobody can be called: still the values are given.
	hold(t, things, "type C struct{f func(*A)};func main(){go @1new(C).f(@2new(A))}", "2", "1")
	// What the other thread makes stays with it.
	hold(t, things, "@ffunc f(){a:=@1new(A);a.n=@2new(A);take(a)};func main(){go f()}", "f", "12")
	hold(t, things, "func main(){go @Lfunc(a *A){a=@1new(A);b:=@2new(A)}(@3new(A))}", "3L", "12")
}

// TestVariables: T1: what is in variables that a given literal has from around.
func TestVariables(t *testing.T) {
	hold(t, things, "func main(){a:=@1new(A);b:=@2new(A);go @Lfunc(){take(a)}();take(b)}", "1L", "2")
	// All that can be in it, whoever lays it there.
	hold(t, things, "func main(){a:=@1new(A);go @Lfunc(){print(a==nil)}();a=@2new(A);a=nil;b:=@3new(A)}", "12L", "3")
	hold(t, things, "func main(){a:=@1new(A);go @Lfunc(){a=@2new(A)}();b:=@3new(A)}", "12L", "3")
	hold(t, things, "func main(){a:=@1new(A);go @Lfunc(){a=nil}()}", "1L", "")
	// Of each kind: what is defined, params, also a method's own, what a case receives.
	hold(t, things, "func f(a *A,b *A){go @Lfunc(){take(a)}()};func main(){f(@1new(A),@2new(A))}", "1L", "2")
	hold(t, "type A struct{};", "func(x *A)m(y *A){go @Lfunc(){print(x==nil)}()};func main(){@1new(A).m(@2new(A))}", "1L", "2")
	hold(t, "type A struct{};", "func(x *A)m(y *A){go @Lfunc(){print(y==nil)}()};func main(){@1new(A).m(@2new(A))}", "2L", "1")
	hold(t, things, "func main(){c:=@cmake(chan *A,1);c<-@1new(A);select{case a:=<-c:go @Lfunc(){take(a)}();case b:=<-c:b=@2new(A)}}", "1L", "2")
	// One that nothing can be in gives nothing; a function is no variable, but can be in one.
	hold(t, things, "func main(){n:=1;go @Lfunc(){print(n)}();a:=@1new(A)}", "L", "1")
	hold(t, things, "@ffunc f(){a:=@1new(A)};func main(){go @Lfunc(){f()}()}", "L", "1")
	hold(t, things, "@ffunc f(){a:=@1new(A)};func main(){g:=f;go @Lfunc(){g()}()}", "Lf", "1")
	// Its own are not given by it: they are made anew in each thread.
	hold(t, things, "func main(){go @Lfunc(a *A){b:=a;b=@2new(A);take(b);c:=make(chan *A,1);select{case d:=<-c:take(d)}}(nil)}", "L", "2")
	// Nor those of a function around that it does not name, also if they have the same name.
	hold(t, things, "func main(){a:=@1new(A);go @Lfunc(){a:=@2new(A);take(a)}()}", "L", "12")
	hold(t, things, "func main(){a:=@1new(A);go @Lfunc(a *A){take(a)}(nil)}", "L", "1")
	hold(t, things, "func main(){a:=@1new(A);go @Lfunc(){b:=a;a:=@2new(A);take(b);take(a)}()}", "1L", "2")
	// A literal that is not given gives nothing.
	hold(t, things, "func main(){a:=@1new(A);f:=func(){take(a)};f();go none()}", "U", "1")
	// What is known by then does not matter: a variable that comes later is given with a name in another one.
	hold(t, things, "func main(){f:=@Lfunc(){};go f();a:=@1new(A);f=@Mfunc(){take(a)}}", "1LM", "")
}

// TestWithin: T1: literals within literals.
func TestWithin(t *testing.T) {
	// A literal within the given one names it, called or not.
	hold(t, things, "func main(){a:=@1new(A);go @Lfunc(){f:=@Mfunc(){take(a)}}()}", "1L", "")
	hold(t, things, "func main(){a:=@1new(A);go @Lfunc(){f:=@Mfunc(){g:=@Nfunc(){take(a)}};f()}()}", "1L", "")
	// Those of the given one, or of the one within, are not given by it.
	hold(t, things, "func main(){go @Lfunc(){a:=@1new(A);f:=@Mfunc(){b:=@2new(A);take(a);take(b)};f()}()}", "L", "12")
	hold(t, things, "func main(){go @Lfunc(a *A){f:=@Mfunc(){g:=@Nfunc(c *A){take(a);take(c)};g(@1new(A))}}(@2new(A))}", "2L", "1")
	// The one within is given: then those of the one around it are, which it names.
	hold(t, things, "func main(){f:=@Lfunc(){a:=@1new(A);b:=@2new(A);go @Mfunc(){take(a)}();take(b)};f()}", "1M", "2")
	hold(t, things, "func main(){f:=@Lfunc(){a:=@1new(A);b:=@2new(A);go @Mfunc(){g:=@Nfunc(){take(b)}}();take(a)};f()}", "2M", "1")
	hold(t, things, "func main(){c:=@1new(A);go @Lfunc(){a:=@2new(A);go @Mfunc(){take(a)}();b:=@3new(A);take(c)}()}", "12LM", "3")
	// Around several: of each one that is given.
	hold(t, things, "func main(){a:=@1new(A);f:=@Lfunc(){b:=@2new(A);g:=@Mfunc(){c:=@3new(A);go @Nfunc(){take(a);take(b);take(c)}()};g()};f()}", "123N", "")
	hold(t, things, "func main(){a:=@1new(A);f:=@Lfunc(){b:=@2new(A);g:=@Mfunc(){c:=@3new(A);h:=@Nfunc(){take(a);take(b);take(c)};h()};go g()};f()}", "12M", "3")
	hold(t, things, "func main(){a:=@1new(A);f:=@Lfunc(){b:=@2new(A);g:=@Mfunc(){c:=@3new(A);h:=@Nfunc(){take(a);take(b);take(c)};h()};g()};go f()}", "1L", "23")
	// A literal beside it is not within it.
	hold(t, things, "func main(){a:=@1new(A);b:=@2new(A);f:=@Lfunc(){take(a)};go @Mfunc(){take(b)}();f()}", "2M", "1")
}

// TestFunctions: T1: what comes with literals that are in variables, and with methods with what stands ahead.
func TestFunctions(t *testing.T) {
	hold(t, things, "func main(){a:=@1new(A);f:=@Lfunc(){take(a)};go @Mfunc(){f()}()}", "1LM", "")
	hold(t, things, "func main(){a:=@1new(A);f:=@Lfunc(){take(a)};go f();go f()}", "1L", "")
	hold(t, things, "@ffunc on(f func()){};func main(){a:=@1new(A);b:=@2new(A);go on(@Lfunc(){take(a)});on(@Mfunc(){take(b)})}", "1Lf", "2")
	hold(t, things, "func main(){a:=@1new(A);f:=@Lfunc(){};f=@Mfunc(){f();take(a)};go @Nfunc(){f()}()}", "1LMN", "")
	// What stands ahead of the `.`.
	hold(t, things, "func main(){a:=@1new(A);go a@M.m(@2new(A));@3new(A).m(nil)}", "12M", "3")
	hold(t, things, "func main(){go @1new(A)@M.m(nil);@2new(A)@N.m(nil)}", "1M", "2")
	hold(t, things, "func main(){a:=@1new(A);f:=a@M.m;a=@2new(A);go f(nil);g:=@3new(A).m}", "12M", "3")
	hold(t, things, "func main(){i:=@1new(A).i;i=@2new(A);i=@3new(B);go i@M.m(nil);@4new(B).m(nil)}", "23M", "14")
	hold(t, things, "func main(){f:=@1new(A)@M.m;go @Lfunc(){f(nil)}()}", "1LM", "")
	// Of several that can be called, each with its own.
	hold(t, things, "func main(){f:=@1new(A)@M.m;f=@2new(B)@N.m;f=take;f=@3new(A).i@O.m;go f(@4new(A));g:=@5new(A).m}", "124MNOT", "35")
	// A field is no method: what stands ahead of its `.` stays.
	hold(t, things, "func main(){a:=@1new(A);b:=@2new(A);a.f=@Lfunc(){take(b)};go a.f()}", "2L", "1")
	// A method of what stands ahead of a field's `.`, and the other way round.
	hold(t, things, "func main(){a:=@1new(A);a.n=@2new(A);go a.n@M.m(nil)}", "2M", "1")
	hold(t, things, "func main(){a:=@1new(A);a.n=@2new(A);go a@M.m(nil)}", "12M", "")
	// What a method names by itself is not named by who has it.
	hold(t, "type A struct{};", "func(x *A)m(){a:=@1new(A);b:=@2new(A);f:=func(){print(a==b)}};func main(){go @3new(A)@M.m()}", "3M", "12")
}

// TestFields: T1: what is in fields of given things.
func TestFields(t *testing.T) {
	hold(t, things, "func main(){a:=@1new(A);a.n=@2new(A);b:=@3new(A);b.n=@4new(A);go take(a)}", "12T", "34")
	// Each field, whatever is in it.
	hold(t, things, "func main(){a:=@1new(A);a.n=@2new(A);a.o=@3new(A);a.i=@4new(B);a.f=@Lfunc(){};a.c=@5make(chan *A);a.k=6;go take(a);@7new(A).n=nil}", "12345LT", "7")
	// Laid there later, by whomever, by another name.
	hold(t, things, "func main(){a:=@1new(A);b:=a;go take(a);b.n=@2new(A)}", "12T", "")
	hold(t, things, "func put(x *A){x.n=@1new(A)};func main(){a:=@2new(A);put(a);go take(a)}", "12T", "")
	hold(t, things, "@ffunc put(x *A){x.n=@1new(A);y:=@2new(A);y.n=x};func main(){a:=@3new(A);go put(a)}", "13f", "2")
	// From one to the next one, also around.
	hold(t, things, "func main(){a:=@1new(A);b:=@2new(A);c:=@3new(A);d:=@4new(A);a.n=b;b.n=c;c.n=d;go take(b)}", "234T", "1")
	hold(t, things, "func main(){a:=@1new(A);b:=@2new(A);a.n=b;b.n=a;a.o=a;go take(b);c:=@3new(A);c.n=c}", "12T", "3")
	// The other way round nothing is given: who has a given thing is not given by it.
	hold(t, things, "func main(){a:=@1new(A);b:=@2new(B);b.a=a;c:=make(chan *A,1);c<-a;go take(a)}", "1T", "2")
	// What is in a field of a thing that can be at the same place.
	hold(t, things, "func main(){a:=@1new(A);b:=@2new(A);a.n=@3new(A);b.n=@4new(A);if true{a=b};go take(b)}", "234T", "1")
	// By a literal in a field, by a method in one.
	hold(t, things, "func main(){a:=@1new(A);b:=@2new(A);a.f=@Lfunc(){take(b)};go take(a)}", "12LT", "")
	hold(t, "type A struct{f func()};@Tfunc take(a *A){};", "func(x *A)m(){};func main(){a:=@1new(A);b:=@2new(A);a.f=b@M.m;go take(a);@3new(A).m()}", "12MT", "3")
	// A function in one.
	hold(t, things, "func main(){a:=@1new(A);a.f=none;go take(a)}", "1TU", "")
}

// TestChannels: T1: what is in channels of given sites, what is sent to them.
func TestChannels(t *testing.T) {
	hold(t, things, "func main(){c:=@cmake(chan *A);d:=@dmake(chan *A,1);go @Lfunc(){<-c}();c<-@1new(A);d<-@2new(A)}", "1Lc", "2")
	hold(t, things, "func main(){c:=@cmake(chan *A);d:=@dmake(chan *A);go @Lfunc(){c<-@1new(A);a:=@2new(A)}();a:=<-c;select{case d<-@3new(A):default:}}", "1Lc", "23")
	// By a case, whether one comes there or not.
	hold(t, things, "func main(){c:=@cmake(chan *A);d:=@dmake(chan *A,1);go @Lfunc(){<-c}();select{case c<-@1new(A):case d<-@2new(A):}}", "1Lc", "2")
	hold(t, things, "func main(){c:=@cmake(chan *A);go @Lfunc(){<-c}();return;c<-@1new(A)}", "1Lc", "")
	// Also if nobody takes it.
	hold(t, things, "func main(){c:=@cmake(chan *A,1);go @Lfunc(){print(c==nil)}();c<-@1new(A)}", "1Lc", "")
	// As a value, in a field, in a channel.
	hold(t, things, "@ffunc f(c chan *A){};func main(){c:=@cmake(chan *A,1);c<-@1new(A);go f(c)}", "1cf", "")
	hold(t, things, "func main(){a:=@1new(A);a.c=@cmake(chan *A,1);a.c<-@2new(A);go take(a);b:=@3new(A);b.c=@dmake(chan *A,1);b.c<-@4new(A)}", "12Tc", "34")
	hold(t, things, "func main(){e:=@emake(chan chan *A,1);c:=@cmake(chan *A,1);d:=@dmake(chan *A,1);e<-c;c<-@1new(A);d<-@2new(A);go @Lfunc(){<-<-e}()}", "1Lce", "2")
	// The other way round it is not given: who carries a given channel is not.
	hold(t, things, "func main(){e:=@emake(chan chan *A,1);c:=@cmake(chan *A,1);e<-c;c<-@1new(A);go @Lfunc(){<-c}()}", "1Lc", "")
	// All that can be a channel.
	hold(t, things, "func main(){c:=@cmake(chan *A,1);d:=@dmake(chan *A,1);f:=c;if true{f=d};f<-@1new(A);go @Lfunc(){<-d}();c<-@2new(A)}", "1Ld", "2")
	// What it carries has fields, uses variables.
	hold(t, things, "func main(){c:=@cmake(chan *A,1);a:=@1new(A);a.n=@2new(A);go @Lfunc(){<-c}();c<-a;b:=@3new(A)}", "12Lc", "3")
	hold(t, things, "func main(){c:=@cmake(chan func(),1);a:=@1new(A);b:=@2new(A);go @Lfunc(){(<-c)()}();c<-@Mfunc(){take(a)};f:=@Nfunc(){take(b)}}", "1LMc", "2")
	hold(t, things, "func main(){c:=@cmake(chan func(*A),1);a:=@1new(A);b:=@2new(A);go @Lfunc(){(<-c)(nil)}();c<-a@M.m;f:=b@N.m}", "1LMc", "2")
	hold(t, things, "func main(){c:=@cmake(chan I,1);go @Lfunc(){<-c}();c<-@1new(A);c<-@2new(B);i:=@3new(A).i;i=@4new(B)}", "12Lc", "34")
	// Numbers are no things.
	hold(t, things, "func main(){c:=@cmake(chan int,1);go @Lfunc(){c<-1}();print(<-c);a:=@1new(A)}", "Lc", "1")
	// To close it, or to ask whether it is nil, is enough for the channel.
	hold(t, things, "func main(){c:=@cmake(chan *A,1);go @Lfunc(){close(c)}();c<-@1new(A)}", "1Lc", "")
}

// TestBack: T1, T2: things that other threads make, and that come back to where they were begun.
func TestBack(t *testing.T) {
	hold(t, things, "func main(){a:=@1new(A);go @Lfunc(){a.n=@2new(A);b:=@3new(A);b.n=@4new(A)}();a.n.k=1}", "12L", "34")
	hold(t, things, "func main(){a:=@1new(A);go @Lfunc(){b:=@2new(A);b.n=@3new(A);a=b}();a.n.k=1}", "123L", "")
	hold(t, things, "@ffunc fill(a *A){a.f=@Lfunc(){a.k=@1new(A).k};b:=@2new(A);a.f=@Mfunc(){b.k=1}};func main(){a:=@3new(A);go fill(a);a.f()}", "23LMf", "1")
	hold(t, things, "func main(){a:=@1new(A);put:=@Lfunc(b *A){a.n=b};go @Mfunc(){put(@2new(A));take(@3new(A))}();a.n.k=1}", "12LM", "3")
	// To a third one.
	hold(t, things, "func main(){c:=@cmake(chan *A);go @Lfunc(){c<-@1new(A)}();go @Mfunc(){a:=<-c;a.n=@2new(A);b:=@3new(A)}()}", "12LMc", "3")
	hold(t, things, "func main(){go @Lfunc(){a:=@1new(A);b:=@2new(A);go @Mfunc(){a.k=1}();b.k=2}()}", "1LM", "2")
}

// TestExample: the numbers of nodes.
func TestExample(t *testing.T) {
	// nodes: 0 ptr, 1 field, 2 struct, 3 sig, 4 new, 5 a:=, 6 new, 7 b:=, 8 a, 9 a.n, 10 new, 11 a.n=, 12 sig, 13 a, 14 nil, 15 ==, 16 print, 17 block, 18 lit, ..
	text := "type A struct {n *A};func main(){a:=new(A);b:=new(A);a.n=new(A);go func(){print(a==nil)}();b.n=nil}"
	sites, first := Sites(text)
	keeps, second := Keeps(text)
	if got := fmt.Sprint(sites, keeps, first, second); got != "[4 10 18] [6] {0 0} {0 0}" {
		t.Error(got)
	}
}

// TestFaults: both answer Check's fault, and nothing else.
func TestFaults(t *testing.T) {
	for _, x := range []struct {
		text string
		code api.Errno
	}{
		{"", api.ErrMain},
		{"type A struct{};func f(a *A){go f(new(A))}", api.ErrMain},
		{"type A struct{};func main(a *A){go main(new(A))}", api.ErrMain},
		{strings.Repeat(" ", api.MaxText+1), api.ErrSize},
		{"type A struct{};func main(){a:=new(A);go \xff}", api.ErrRune},
		{"type A struct{};func main(){a:=new(A);go }", api.ErrSyntax},
		{"func main(){go " + strings.Repeat("(", 40) + "main" + strings.Repeat(")", 40) + "()}", api.ErrDeep},
		{"func main(){" + strings.Repeat("go main();", 400) + "}", api.ErrFull},
		{"type A struct{};func main(){a:=new(A);go f(a)}", api.ErrName},
		{"func main(){go func(){a=nil}()}", api.ErrName},
		{"type A struct{};func main(){a:=new(A);a:=new(A);go func(){a=nil}()}", api.ErrTwice},
		{"type A struct{};func main(){a:=new(A);go a}", api.ErrType},
		{"type A struct{};func f(n int){};func main(){go f(new(A))}", api.ErrType},
		{"type A struct{};func f(a *A){};func main(){go f()}", api.ErrCount},
		{"type A struct{};func main(){a:=new(A);c:=make(chan *A,9);go func(){c<-a}()}", api.ErrRange},
	} {
		_, want := check.Check(x.text)
		if want.Code != x.code {
			t.Fatalf("%q: %v", x.text, want)
		}
		sites, first := Sites(x.text)
		keeps, second := Keeps(x.text)
		if first != want || second != want || len(sites)+len(keeps) > 0 {
			t.Errorf("%q: %v, %v, not %v; %v, %v", x.text, first, second, want, sites, keeps)
		}
	}
}

// TestNewMemory: P3: what is answered is not kept, and the same is answered again.
func TestNewMemory(t *testing.T) {
	text, _ := unmark(things + "func main(){a:=new(A);b:=new(A);a.n=new(A);a.f=func(){a.i=new(B);f:=func(){b=a}};c:=make(chan *A,1);c<-new(A);go a.m(<-c);go func(){a.f()}();d:=new(A);d.n=new(A);d.o=d}")
	ask := func() string {
		sites, first := Sites(text)
		keeps, second := Keeps(text)
		all := fmt.Sprint(sites, keeps, first, second)
		for _, list := range [][]int{sites, keeps} {
			list = list[:cap(list)]
			for i := range list {
				list[i] = -9
			}
		}
		return all
	}
	want := ask()
	for range 50 {
		if got := ask(); got != want {
			t.Fatalf("%s, not %s", got, want)
		}
	}
}

// TestGreat: P1: programs as great as may be, in which much is given.
func TestGreat(t *testing.T) {
	deep := func(body string, many int) string {
		return strings.Repeat("h=func(){", many) + body + strings.Repeat("}", many)
	}
	for _, x := range []struct {
		text         string
		sites, keeps int
	}{
		// A long way from field to field, gone against the order of the text.
		{"type A struct{n *A};func main(){a:=new(A);" + strings.Repeat("a.n=new(A);a=a.n;", 140) + "go func(){a=nil}()}", 142, 0},
		{"type A struct{n *A};func main(){a:=new(A);" + strings.Repeat("a.n=new(A);a=a.n;", 140) + "go func(){}()}", 1, 141},
		// All of many literals name one variable, which has all of them; a part of them stands deep within others.
		{"func main(){h:=main;go h();" + strings.Repeat("h=func(){h()};", 140) + "}", 141, 0},
		{"func main(){h:=main;go h();" + strings.Repeat("h=main;", 150) + deep(strings.Repeat("h=func(){};", 40)+strings.Repeat("h();", 50), 13) + "}", 54, 0},
		// Each of many channels carries all of them.
		{"type A struct{c chan *A};func main(){a:=new(A);" + strings.Repeat("a.c=make(chan *A,1);a.c<-new(A);", 100) + "go func(){a.c=nil}()}", 202, 0},
		// Many threads.
		{"type A struct{};func f(a *A){};func main(){" + strings.Repeat("go f(new(A));", 200) + "}", 201, 0},
		{"type A struct{};func f(a *A){};func main(){" + strings.Repeat("f(new(A));", 200) + "go f(nil)}", 1, 200},
	} {
		sites, fault := Sites(x.text)
		keeps, _ := Keeps(x.text)
		if fault.Code != api.OK || len(sites) != x.sites || len(keeps) != x.keeps {
			t.Errorf("%.60q: %v: %d sites, %d keeps", x.text, fault, len(sites), len(keeps))
		}
	}
}

// TestKeeps: T3: just KNew are kept, of those all that are not given; of all else that can be somewhere nothing is told.
func TestKeeps(t *testing.T) {
	text, _ := unmark(things + "func main(){a:=new(A);c:=make(chan *A,1);c<-new(A);d:=make(chan *A,1);d<-new(A);f:=func(){a=new(A)};f();g:=a.m;go take(<-d)}")
	nodes, _ := syntax.Parse(text)
	sets, _ := points.Sets(text)
	sites, _ := Sites(text)
	keeps, _ := Keeps(text)
	for number, n := range nodes {
		isSite := slices.Contains(sets[number], number)
		if n.Kind == api.KNew && !isSite {
			t.Fatal(number, sets[number])
		}
		want := n.Kind == api.KNew && !slices.Contains(sites, number)
		if slices.Contains(keeps, number) != want {
			t.Error(number, n, keeps)
		}
	}
	if len(keeps) != 3 || len(sites) != 2 {
		t.Error(keeps, sites)
	}
}
