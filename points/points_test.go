package points

import (
	"fmt"
	"slices"
	"strconv"
	"strings"
	"testing"

	"ravel/api"
	"ravel/check"
	"ravel/syntax"
)

// unmark takes the marks (@ and a sign) out of a text, and answers which ones stood ahead of which byte.
func unmark(marked string) (string, map[int]string) {
	var text strings.Builder
	marks := map[int]string{}
	for i := 0; i < len(marked); i++ {
		if marked[i] == '@' {
			i++
			marks[text.Len()] = marked[i : i+1]
			continue
		}
		text.WriteByte(marked[i])
	}
	return text.String(), marks
}

func sorted(words []string, between string) string {
	slices.Sort(words)
	return strings.Join(words, between)
}

func isRising(list []int) bool {
	return slices.IsSorted(list) && len(slices.Compact(slices.Clone(list))) == len(list)
}

// tell asks both faces of a marked text. Of each byte that is marked, and has a node whose set is not empty, it tells the sign, a colon, and the signs of the set (no two such nodes stand at one byte); of fields the sign of the site, a dot and the name, or of a channel just the dot, and the set likewise. Sites that are not marked are their numbers.
func tell(t *testing.T, marked string) (sets, fields string) {
	t.Helper()
	text, marks := unmark(marked)
	nodes, fault := syntax.Parse(text)
	lists, first := Sets(text)
	held, second := Fields(text)
	if fault.Code+first.Code+second.Code != api.OK || len(lists) != len(nodes) {
		t.Fatalf("%q: %v, %v, %v; %d", text, fault, first, second, len(lists))
	}
	word := func(site int) string {
		if mark := marks[nodes[site].At]; mark != "" {
			return mark
		}
		return fmt.Sprintf("<%d>", site)
	}
	words := func(list []int) string {
		if !isRising(list) {
			t.Errorf("%q: %v is not rising", text, list)
		}
		var out []string
		for _, site := range list {
			out = append(out, word(site))
		}
		return sorted(out, "")
	}
	var told, inner []string
	for number, list := range lists {
		if mark := marks[nodes[number].At]; mark != "" && len(list) > 0 {
			told = append(told, mark+":"+words(list))
		}
	}
	for _, h := range held {
		inner = append(inner, word(h.Site)+"."+h.Name+":"+words(h.Set))
	}
	return sorted(told, " "), sorted(inner, " ")
}

// hold holds what is told of a marked text, ahead of which stand these decls.
func hold(t *testing.T, decls, marked, sets, fields string) {
	t.Helper()
	gotSets, gotFields := tell(t, decls+marked)
	if gotSets != sets || gotFields != fields {
		t.Errorf("%q:\n%q and %q,\nnot\n%q and %q", marked, gotSets, gotFields, sets, fields)
	}
}

// things has structs, and an interface that both of them have.
const things = "type A struct{n *A;o *A;i I;f func()*A;c chan *A};type B struct{a *A;b *B};type I interface{get(a *A)*A};func(x *A)get(y *A)*A{return nil};func(x *B)get(y *A)*A{return nil};"

// TestSites: I1: what makes things.
func TestSites(t *testing.T) {
	hold(t, things, "func main(){@aa:=@1new(A);@bb:=@2new(A);@cc:=@3new(B)}", "1:1 2:2 3:3 a:1 b:2 c:3", "")
	hold(t, things, "func main(){@aa:=@1make(chan int);@bb:=@2make(chan *A,3);@cc:=@3func(){}}", "1:1 2:2 3:3 a:1 b:2 c:3", "")
	// A function is a site where its name is used; its own set is empty.
	hold(t, things, "@ffunc f(){};@mfunc main(){@aa:=@bf;@cb:=@df;@ec:=@gmain;@hf()}", "a:f b:f c:f d:f e:m g:m h:f", "")
	// A method with what stands ahead is a new site each time; the method itself is none.
	hold(t, things, "func main(){@aa:=@1new(A);@bb:=a@2.get;@cc:=a@3.get;@dd:=a.i@4.get}", "1:1 2:2 3:3 4:4 a:1 b:2 c:3 d:4", "")
	// Without any use there is just what makes it.
	hold(t, things, "func main(){@1new(A).get(@2new(A));print(@3new(A)==@4new(A));go @5func(){}()}", "1:1 2:2 3:3 4:4 5:5", "")
	// Nil, numbers and truth values are no things.
	hold(t, things, "func main(){@aa:=@11+@22;@bb:=@3true;@cc:=@4!@5b;@dd:=@6-@7a;@ee:=@8new(A)==@9nil;@fa=@g3}", "8:8", "")
}

// TestVariables: I1: KName, KDefine, KAssign.
func TestVariables(t *testing.T) {
	hold(t, things, "func main(){@aa:=@1new(A);@bb:=@ca;@dc:=@2new(A)}", "1:1 2:2 a:1 b:1 c:1 d:2", "")
	// What stands where does not matter, nor whether one comes there.
	hold(t, things, "func main(){@aa:=@1new(A);@bb:=@ca;@da=@2new(A);@ea=nil}", "1:1 2:2 a:12 b:12 c:12 d:12 e:12", "")
	hold(t, things, "func main(){@aa:=@1new(A);@bb:=@ca;return;if false{@da=@2new(A)}}", "1:1 2:2 a:12 b:12 c:12 d:12", "")
	// What comes goes on, also around.
	hold(t, things, "func main(){@aa:=@1new(A);@bb:=@2new(A);@cc:=@3new(A);a=b;b=c}", "1:1 2:2 3:3 a:123 b:23 c:3", "")
	hold(t, things, "func main(){@aa:=@1new(A);@bb:=@2new(A);@cc:=@3new(A);a=b;b=c;c=a;a=a}", "1:1 2:2 3:3 a:123 b:123 c:123", "")
	// Names that are there several times.
	hold(t, things, "func main(){@aa:=@1new(A);if true{@ba:=@2new(A);@ca=@3new(A)}else{@da=@4new(A)};@ea=nil}", "1:1 2:2 3:3 4:4 a:14 b:23 c:23 d:14 e:14", "")
	hold(t, things, "func main(){@aa:=@1new(A);if true{@ba:=@ca;@da=@2new(A)}}", "1:1 2:2 a:1 b:12 c:1 d:12", "")
	// Literals use variables from around.
	hold(t, things, "func main(){@aa:=@1new(A);go func(){@bb:=@ca;@da=@2new(A)}()}", "1:1 2:2 a:12 b:12 c:12 d:12", "")
	// An interface has what was put there.
	hold(t, things, "func f()I{return nil};func main(){@ai:=f();@bi=@1new(A);@ci=@2new(B);@dp:=@3new(A);@ei=@fp}", "1:1 2:2 3:3 a:123 b:123 c:123 d:3 e:123 f:3", "")
	// A function's name, or a variable of that name.
	hold(t, things, "@ffunc f(){};func main(){@ag:=@bf;@cf:=@1func(){};@dg=@ef}", "1:1 a:1f b:f c:1 d:1f e:1", "")
}

// TestFields: I1: KDot of a field, KAssign to one.
func TestFields(t *testing.T) {
	hold(t, things, "func main(){@aa:=@1new(A);@bb:=@ca;@db@e.n=@2new(A)}", "1:1 2:2 a:1 b:1 c:1 d:1 e:2", "1.n:2")
	hold(t, things, "func main(){a:=@1new(A);a@a.n=@2new(A);@bb:=a@c.n;@dc:=a@e.o}", "1:1 2:2 a:2 b:2 c:2", "1.n:2")
	// Each field of each site is by itself.
	hold(t, things, "func main(){a:=@1new(A);b:=@2new(A);a.n=a;a.o=b;b.n=a;b@a.o=nil;x:=a@b.n;x=a@c.o;x=b@d.n;x=b@e.o}", "1:1 2:2 b:1 c:2 d:1", "1.n:1 1.o:2 2.n:1")
	// Where several can stand ahead, all are set, and all are read.
	hold(t, things, "func main(){a:=@1new(A);b:=@2new(A);a.n=@3new(A);b.n=@4new(A);c:=a;c=b;c@a.o=@5new(A);@bx:=a@c.o;@dy:=c@e.n}", "1:1 2:2 3:3 4:4 5:5 a:5 b:5 c:5 d:34 e:34", "1.n:3 1.o:5 2.n:4 2.o:5")
	// What stands ahead grows later than what is set, and what is set later than what stands ahead.
	hold(t, things, "func main(){c:=@1new(A);v:=@2new(A);c.n=v;x:=c@a.n;c=@3new(A);v=@4new(A);@by:=x}", "1:1 2:2 3:3 4:4 a:24 b:24", "1.n:24 3.n:24")
	// Fields of fields.
	hold(t, things, "func main(){a:=@1new(A);a.n=@2new(A);a@a.n@b.n=@3new(A);a.n.n.n=a;@cx:=a.n@d.n@e.n@f.o;@gy:=a@h.n@i.n@j.n}", "1:1 2:2 3:3 a:2 b:3 d:3 e:1 g:1 h:2 i:3 j:1", "1.n:2 2.n:3 3.n:1")
	hold(t, things, "func main(){a:=@1new(A);a@a.n=a;@bx:=a.n@c.n@d.n}", "1:1 a:1 b:1 c:1 d:1", "1.n:1")
	// In a round a thing can be that of any time.
	hold(t, things, "func main(){a:=@1new(A);for true{b:=@2new(A);b@a.n=a;@ba=b}}", "1:1 2:2 a:12 b:12", "2.n:12")
	// Of nil nothing is read, and nothing is set.
	hold(t, things, "func main(){a:=@1new(A);a@a.n@b.n=@2new(A);@cx:=a@d.n@e.n}", "1:1 2:2", "")
	// Fields of all kinds.
	hold(t, things, "@ffunc f()*A{};func main(){a:=@1new(A);a@a.i=@2new(B);a@b.f=@cf;a@d.c=@3make(chan *A);b:=@4new(B);b.b=b;b@e.b@g.a=a@h.n}", "1:1 2:2 3:3 4:4 a:2 b:f c:f d:3 e:4", "1.c:3 1.f:f 1.i:2 4.b:4")
	// Structs that have fields of one name.
	hold(t, "type A struct{n *A};type B struct{n *A};", "func main(){a:=@1new(A);b:=@2new(B);a.n=@3new(A);b.n=a;@ax:=a.n;@by:=b.n}", "1:1 2:2 3:3 a:3 b:1", "1.n:3 2.n:1")
	// A number's field has nothing.
	hold(t, "type A struct{n int;b bool};", "func main(){a:=@1new(A);a@a.n=3;a@b.b=a==a;@cx:=a@d.n}", "1:1", "")
}

// TestChannels: I1: KSend, KRecv, and those of a select.
func TestChannels(t *testing.T) {
	hold(t, things, "func main(){c:=@1make(chan *A);c<-@2new(A);@ax:=@b<-c;@c<-c}", "1:1 2:2 a:2 b:2 c:2", "1.:2")
	hold(t, things, "func main(){c:=@1make(chan *A);d:=@2make(chan *A,2);c<-@3new(A);d<-@4new(A);e:=c;e=d;e<-@5new(A);@ax:=<-c;@by:=<-d;@cz:=<-e}", "1:1 2:2 3:3 4:4 5:5 a:35 b:45 c:345", "1.:35 2.:45")
	// What comes first does not matter.
	hold(t, things, "func main(){c:=@1make(chan *A);@ax:=<-c;v:=x;c<-v;v=@2new(A);c=@3make(chan *A)}", "1:1 2:2 3:3 a:2", "1.:2 3.:2")
	// Cases: the one that receives has a set, with a name and without; its variable has also what is put there later.
	hold(t, things, "func main(){c:=@1make(chan *A);d:=@2make(chan *A);select{@acase x:=<-c:@by:=@cx;@dx=@3new(A);@ecase <-d:@fcase d<-@4new(A):@gcase c<-@5new(A):@hdefault:}}", "1:1 2:2 3:3 4:4 5:5 a:35 b:35 c:35 d:35 e:4", "1.:5 2.:4")
	hold(t, things, "func main(){c:=@1make(chan *A);select{@acase x:=<-c:@bcase x:=<-c:print(x==nil);case c<-@2new(A):}}", "1:1 2:2 a:2 b:2", "1.:2")
	// Channels of channels, of functions, of interfaces.
	hold(t, things, "func main(){c:=@1make(chan chan *A);d:=@2make(chan *A);c<-d;@a<-c<-@3new(A);@bx:=@c<-@d<-c}", "1:1 2:2 3:3 a:2 b:3 c:3 d:2", "1.:2 2.:3")
	hold(t, things, "func f()I{};func main(){c:=@1make(chan I,1);c<-@2new(A);c<-@3new(B);i:=f();c<-i;@ai=<-c}", "1:1 2:2 3:3 a:23", "1.:23")
	hold(t, things, "@ffunc f(){};func main(){c:=@1make(chan func());c<-f;c<-@2func(){};@ag:=<-c}", "1:1 2:2 a:2f", "1.:2f")
	// To nil nothing is sent, and numbers are no things.
	hold(t, things, "func main(){a:=@1new(A);a@a.c<-@2new(A);@bx:=@c<-a@d.c;n:=@3make(chan int);n<-4;@ey:=@f<-n;close(n)}", "1:1 2:2 3:3", "")
}

// TestAsserts: I1: KAssert lets just those through that it asks for.
func TestAsserts(t *testing.T) {
	hold(t, things, "func f(@pi I){@aa:=i@b.(*A);@cb:=i@d.(*B)};func main(){f(@1new(A));f(@2new(B));f(@3new(A));f(nil)}", "1:1 2:2 3:3 a:13 b:13 c:2 d:2 p:123", "")
	hold(t, things+"type C struct{};func(x *C)get(y *A)*A{};", "func f(@pi I){@aa:=i@b.(*C)};func main(){f(@1new(A))}", "1:1 p:1", "")
	hold(t, things, "func f(i I){i@a.(*A)@b.n=@1new(A);@cx:=i@d.(*A)@e.n};func main(){f(@2new(A));f(@3new(B))}", "1:1 2:2 3:3 a:2 b:1 c:1 d:2 e:1", "2.n:1")
	// An interface that asks for nothing has all, and one gives to another one.
	hold(t, things+"type E interface{};", "func g(@pe E,@qi I){@ax:=e@b.(*B)};func main(){a:=@1new(A);g(a,a.i);a.i=@2new(B);g(a.i,nil)}", "1:1 2:2 a:2 b:2 p:12 q:2", "1.i:2")
}

// TestReturns: I1: KReturn of the function, method or literal around.
func TestReturns(t *testing.T) {
	hold(t, things, "func f@s()*A{if true{return @1new(A)};return @2new(A)};func main(){}", "1:1 2:2 s:12", "")
	hold(t, things, "func f@s()*A{for true{@ax:=@3func@r()*A{return @1new(A)};return @2new(A)}};func main(){}", "1:1 2:2 3:3 a:3 r:1 s:2", "")
	hold(t, "type A struct{};", "func(a *A)m@s()*A{return a};func(a *A)o@r()*A{return @1new(A)};func main(){}", "1:1 r:1", "")
	hold(t, things, "func f@s()I{return f@c()};func g@r(){return};func h@q()int{return 1};func i@p()*A{return nil};func main(){}", "", "")
	hold(t, things, "func main(){@ax:=@1func@s()func()*A{return @2func@r()*A{return @3new(A)}}@b()@c()}", "1:1 2:2 3:3 a:3 b:2 c:3 r:3 s:2", "")
}

// TestCalls: I1: what is handed over and comes back, by a KFunc and a KLit.
func TestCalls(t *testing.T) {
	hold(t, things, "func f@s(@px *A)*A{return x};func main(){@aa:=f@c(@1new(A))}", "1:1 a:1 c:1 p:1 s:1", "")
	// All calls of a function are taken together.
	hold(t, things, "@ffunc f@s(@px *A,@qy *A)*A{if true{return x};return y};func main(){@aa:=f@c(@1new(A),nil);@bb:=f@d(@2new(A),@3new(A));@ef@g(nil,nil)}", "1:1 2:2 3:3 a:123 b:123 c:123 d:123 e:f g:123 p:12 q:3 s:123", "")
	// In whatever order.
	hold(t, things, "func main(){@aa:=f@c(@1new(A));@bb:=f@d(a)};func f@s(@px *A)*A{x=@2new(A);return g@e(x)};func g@r(@qx *A)*A{return x}", "1:1 2:2 a:12 b:12 c:12 d:12 e:12 p:12 q:12 r:12 s:12", "")
	// What nobody calls is handed nothing; what stands in it counts.
	hold(t, things, "@ffunc f@s(@px *A)*A{g(@1new(A));return x};func g(@qx *A){};func main(){@ah:=f}", "1:1 a:f q:1", "")
	hold(t, things, "func main(){@aa:=@1func@s(@px *A)*A{return x};@bb:=@2func@r(@qx *A)*A{return x}@c(@3new(A))}", "1:1 2:2 3:3 a:1 b:3 c:3 q:3 r:3", "")
	// By a variable: each one that can be there.
	hold(t, things, "@ffunc f@s(@px *A)*A{return x};@gfunc g@r(@qx *A)*A{return @1new(A)};func main(){h:=f;h=g;h=@2func@t(@ox *A)*A{return h@c(x)};@ay:=@bh@d(@3new(A))}", "1:1 2:2 3:3 a:13 b:2fg c:13 d:13 o:3 p:3 q:3 r:1 s:3 t:13", "")
	hold(t, things, "@ffunc f(@px *A){};func main(){h:=f;h=nil;h(@1new(A));h=func(@qx *A){h(@2new(A))}}", "1:1 2:2 p:12 q:12", "")
	// By a param, a field, a channel, what comes back.
	hold(t, things, "@ffunc f@s()*A{return @1new(A)};func g@r(@ph func()*A)*A{return h@c()};func main(){@aa:=g@d(f);@bb:=g@e(nil)}", "1:1 a:1 b:1 c:1 d:1 e:1 p:f r:1 s:1", "")
	hold(t, things, "@ffunc f@s()*A{return @1new(A)};func main(){a:=@2new(A);@bx:=a@a.f@c();a.f=f}", "1:1 2:2 a:f b:1 c:1 s:1", "2.f:f")
	hold(t, things, "@ffunc f@s(@px *A){};func main(){c:=@1make(chan func(*A));c<-f;@a<-c;(@b<-c)@d(@2new(A))}", "1:1 2:2 a:f b:f p:2", "1.:f")
	hold(t, things, "@ffunc f(@px *A){};func g@s()func(*A){return f};func main(){g@c()@d(@1new(A))}", "1:1 c:f p:1 s:f", "")
	// Who calls itself.
	hold(t, things, "func f@s(@px *A,@qy *A)*A{if true{return x};return f@c(y,@1new(A))};func main(){@aa:=f(@2new(A),@3new(A))}", "1:1 2:2 3:3 a:123 c:123 p:123 q:13 s:123", "")
	// That of a KGo, too: what would come back is told of it.
	hold(t, things, "func f@s(@px *A)*A{return x};func main(){go f@c(@1new(A));go func(@qx *A){}(@2new(A))}", "1:1 2:2 c:1 p:1 q:2 s:1", "")
}

// boxes has structs whose methods are told apart, and interfaces of them.
const boxes = "type A struct{n *A};type B struct{n *A};type C struct{};type I interface{m(@zx *A)*A};type J interface{m(@zx *A)*A;o()};" +
	"func(@aa *A)m@b(@cx *A)*A{return a.n};func(@da *B)m@e(@fx *A)*A{a.n=x;return x};func(@ga *B)o(){};func(@ha *C)m@i(@jx *A)*A{return x};"

// TestMethods: I1: calls by a KDot ahead of which stands a struct.
func TestMethods(t *testing.T) {
	hold(t, boxes, "func main(){a:=@1new(A);@ka@l.m@o(@2new(A))}", "1:1 2:2 a:1 c:2 k:1 l:l", "")
	hold(t, boxes, "func main(){a:=@1new(A);a.n=@2new(A);@kx:=a@l.m@o(a)}", "1:1 2:2 a:1 b:2 c:1 k:2 l:l o:2", "1.n:2")
	hold(t, boxes, "func main(){b:=@1new(B);@kx:=b@l.m@o(@2new(A));b@p.o()}", "1:1 2:2 d:1 e:2 f:2 g:1 k:2 l:l o:2 p:p", "1.n:2")
	// All that can stand ahead is handed over.
	hold(t, boxes, "func main(){a:=@1new(A);a=@2new(A);a.m(nil);@3new(A).m(nil)}", "1:1 2:2 3:3 a:123", "")
	// A method is called, though nil stands ahead.
	hold(t, boxes, "func main(){c:=@1make(chan *C);@kx:=(<-c)@l.m@o(@2new(A))}", "1:1 2:2 i:2 j:2 k:2 l:l o:2", "")
	// What is not called is handed nothing.
	hold(t, boxes, "func main(){a:=@1new(A);@kf:=a@l.m}", "1:1 k:l l:l", "")
	// What is called later, and elsewhere.
	hold(t, boxes, "func f(@kg func(*A)*A){@og@p(@1new(A))};func main(){c:=@2new(C);f(c@l.m);b:=@3new(B);h:=b@q.m}", "1:1 2:2 3:3 h:2 i:1 j:1 k:l l:l o:l p:1 q:q", "")
	hold(t, boxes, "func main(){f:=@1new(A)@k.m;f=@2new(C)@l.m;f=@3func(x *A)*A{return nil};@of@p(@4new(A))}", "1:1 2:2 3:3 4:4 a:1 c:4 h:2 i:4 j:4 k:k l:l o:3kl p:4", "")
	// By a KGo.
	hold(t, boxes, "func main(){go @1new(B)@k.m@l(@2new(A))}", "1:1 2:2 d:1 e:2 f:2 k:k l:2", "1.n:2")
	// A field that is called is no method.
	hold(t, "type A struct{f func(*A)*A};", "func main(){a:=@1new(A);a.f=@2func@s(@px *A)*A{return x};@ay:=a@b.f@c(a)}", "1:1 2:2 a:1 b:2 c:1 p:1 s:1", "1.f:2")
}

// TestInterfaces: I1: calls by a KDot ahead of which stands an interface.
func TestInterfaces(t *testing.T) {
	hold(t, boxes, "func f(@ki I){@ly:=i@o.m@p(@1new(A))};func main(){f(@2new(C))}", "1:1 2:2 h:2 i:1 j:1 k:2 l:1 o:o p:1", "")
	// Each struct's method is handed just what is of this struct; values and what comes back are taken together.
	hold(t, boxes, "func f(@ki I){@ly:=i@o.m@p(@1new(A))};func main(){a:=@2new(A);a.n=@3new(A);f(a);f(@4new(B));f(@5new(B))}", "1:1 2:2 3:3 4:4 5:5 a:2 b:3 c:1 d:45 e:1 f:1 k:245 l:13 o:o p:13", "2.n:3 4.n:1 5.n:1")
	// Nothing stands ahead: nothing is called, but the method with what stands ahead is told.
	hold(t, boxes, "func f(@ki I){@ly:=i@o.m@p(@1new(A))};func main(){f(nil);x:=@2new(A)}", "1:1 2:2 o:o", "")
	// What is not called is handed nothing.
	hold(t, boxes, "func f(@ki I){@lg:=i@o.m};func main(){f(@1new(A))}", "1:1 k:1 l:o o:o", "")
	// What is called later, when other things have come.
	hold(t, boxes, "func f(@ki I)func(*A)*A{return i@o.m};func main(){@lg:=f@p(@1new(A));@qg@r(@2new(A));f(@3new(C))}", "1:1 2:2 3:3 a:1 c:2 h:3 i:2 j:2 k:13 l:o o:o p:o q:o r:2", "")
	// An interface in another one.
	hold(t, boxes, "func f(@ki I){i@o.m(nil)};func g(@lj J){f(j);j@p.m(@1new(A));j@q.o()};func main(){g(@2new(B));f(@3new(A))}", "1:1 2:2 3:3 a:3 d:2 e:1 f:1 g:2 k:23 l:2 o:o p:p q:q", "2.n:1")
	// By a KGo.
	hold(t, boxes, "func f(@ki I){go i@o.m@p(@1new(A))};func main(){f(@2new(C))}", "1:1 2:2 h:2 i:1 j:1 k:2 o:o p:1", "")
	// What comes back stands ahead.
	hold(t, "type I interface{m@z(@yi I)I};type A struct{};type B struct{};func(@aa *A)m@b(@ci I)I{return @1new(B)};func(@db *B)m@e(@fi I)I{return b};", "func main(){@gi:=@2new(A)@k.m@l(nil);i@o.m@p(i)}", "1:1 2:2 a:2 b:1 d:1 e:1 f:1 g:1 k:k l:1 o:o p:1", "")
}

// TestExample: the document's, with the numbers of nodes.
func TestExample(t *testing.T) {
	// nodes: 0 pointer, 1 field, 2 struct, 3 sig, 4 new, 5 define a, 6 a, 7 define b, 8 b, 9 dot, 10 new, 11 assign, 12 block, 13 func
	text := "type A struct {n *A};func main(){a := new(A); b := a; b.n = new(A)}"
	sets, fault := Sets(text)
	if got := fmt.Sprint(sets, fault); got != "[[] [] [] [] [4] [4] [4] [4] [4] [10] [10] [] [] [] []] {0 0}" {
		t.Error(got)
	}
	fields, fault := Fields(text)
	if got := fmt.Sprint(fields, fault); got != "[{4 n [10]}] {0 0}" {
		t.Error(got)
	}
	// The whole's: of b.a nothing is told.
	fields, fault = Fields("type A struct {};type B struct {a *A};func main(){b:=new(B);print(b.a==nil)}")
	if len(fields) > 0 || fault != (api.Fault{}) {
		t.Error(fields, fault)
	}
}

// TestOrder: I2: Fields is rising by Site, then Name, by its bytes.
func TestOrder(t *testing.T) {
	text := "type A struct{b *A;a *A;_ *A;B *A;aa *A;a1 *A};func main(){c:=make(chan *A);p:=new(A);c<-p;d:=make(chan *A);q:=new(A);" +
		"q.b=p;q.a=q;q.a=p;q._=p;q.B=p;q.aa=p;q.a1=p;p.aa=q;p.B=q;d<-q}"
	nodes, _ := syntax.Parse(text)
	fields, fault := Fields(text)
	letters := map[int]string{} // of c, p, d, q, by their sites
	for number, n := range nodes {
		if n.Kind == api.KMake || n.Kind == api.KNew {
			letters[number] = "cpdq"[len(letters) : len(letters)+1]
		}
	}
	var got []string
	for _, h := range fields {
		got = append(got, letters[h.Site]+"."+h.Name+":"+strconv.Itoa(len(h.Set)))
	}
	if want := "c.:1 p.B:1 p.aa:1 d.:1 q.B:1 q._:1 q.a:2 q.a1:1 q.aa:1 q.b:1"; strings.Join(got, " ") != want || fault != (api.Fault{}) {
		t.Error(got, fault)
	}
}

// TestKinds: I1: sets are empty of all nodes that are not named there.
func TestKinds(t *testing.T) {
	text := "type A struct{n *A;f func(*A)*A};type I interface{m(x *A)*A};func(a *A)m(x *A)*A{if a==nil{return x};a.n=x;return a.n};" +
		"func f(i I,c chan I)I{select{case j:=<-c:return j;case c<-i:default:for true{break}};c<-i;close(c);return i};" +
		"func main(){c:=make(chan I,1);a:=new(A);a.n=a;a.f=a.m;a.f(a);go f(a,c);i:=f(a,c);print(i.m(i.(*A))==(<-c));go func(x *A){x.f=x.m}(a);panic(-1)}"
	nodes, _ := syntax.Parse(text)
	sets, fault := Sets(text)
	if fault.Code != api.OK {
		t.Fatal(fault)
	}
	named := []int{api.KNew, api.KMake, api.KLit, api.KName, api.KDefine, api.KParam, api.KDot, api.KRecv, api.KCaseRecv, api.KAssert, api.KSig, api.KCall}
	seen := map[int]bool{}
	for number, set := range sets {
		if len(set) > 0 {
			seen[nodes[number].Kind] = true
		}
	}
	for kind := range api.KBinary + 1 {
		if seen[kind] != slices.Contains(named, kind) {
			t.Errorf("of kind %d something is told: %v", kind, seen[kind])
		}
	}
}

// TestFaults: both answer Check's fault, and nothing else.
func TestFaults(t *testing.T) {
	for _, x := range []struct {
		text string
		code api.Errno
	}{
		{"", api.ErrMain},
		{strings.Repeat(" ", api.MaxText+1), api.ErrSize},
		{"func main(){print(\xff)}", api.ErrRune},
		{"func main(){a:=new(A}", api.ErrSyntax},
		{"func main(){print" + strings.Repeat("(", 40) + "1" + strings.Repeat(")", 40) + "}", api.ErrDeep},
		{"func main(){" + strings.Repeat("print(1);", 600) + "}", api.ErrFull},
		{"func main(){a:=new(A)}", api.ErrName},
		{"type A struct{};func main(){a:=new(A);a.n=a}", api.ErrName},
		{"type I interface{m()};func f(i I){i.o()};func main(){}", api.ErrName},
		{"type A struct{};func main(){a:=new(A);a:=a}", api.ErrTwice},
		{"type A struct{};func main(){a:=new(A);a=1}", api.ErrType},
		{"type A struct{};type I interface{m()};func f(i I){};func main(){f(new(A))}", api.ErrType},
		{"func main(){a:=nil}", api.ErrType},
		{"type A struct{};func(a *A)m(){};func main(){new(A).m(1)}", api.ErrCount},
		{"type A struct{};func f()*A{return new(A)}", api.ErrMain},
		{"func main(){c:=make(chan int,9);<-c}", api.ErrRange},
	} {
		_, want := check.Check(x.text)
		if want.Code != x.code {
			t.Fatalf("%q: %v", x.text, want)
		}
		sets, first := Sets(x.text)
		fields, second := Fields(x.text)
		if first != want || second != want || len(sets)+len(fields) > 0 {
			t.Errorf("%q: %v, %v, not %v; %v, %v", x.text, first, second, want, sets, fields)
		}
	}
}

// TestNewMemory: P3: what is answered is not kept, no two lists share memory, and the same is answered again.
func TestNewMemory(t *testing.T) {
	text, _ := unmark(boxes + "func f(i I,j J)*A{a:=new(A);b:=a;b.n=a;a=i.m(b);i=j;c:=make(chan *A);c<-a;c<-b;return <-c};func main(){f(new(A),new(B));f(new(C),nil)}")
	ask := func() string {
		sets, first := Sets(text)
		fields, second := Fields(text)
		all := fmt.Sprint(sets, fields, first, second)
		for _, h := range fields {
			sets = append(sets, h.Set)
		}
		for _, list := range sets {
			list = list[:cap(list)]
			for i := range list {
				if list[i] == -9 {
					t.Fatal("two lists share memory")
				}
				list[i] = -9
			}
		}
		return all
	}
	want := ask()
	for range 50 {
		if got := ask(); got != want {
			t.Fatalf("%s, not %s", got, want)
		}
	}
}

// names answers as many names, each another one.
func names(many int) []string {
	var out []string
	for i := range many {
		out = append(out, "_"+strconv.FormatInt(int64(i), 36))
	}
	return out
}

// TestGreat: P1: programs as great as may be, in which much comes everywhere.
func TestGreat(t *testing.T) {
	structA := "type A struct{" + strings.Join(names(60), " *A;") + " *A};"
	// Each of 60 fields of each of 251 sites has all of them.
	fields := structA + "func main(){p:=new(A);" + strings.Repeat("p=new(A);", 250) + "p." + strings.Join(names(60), "=p;p.") + "=p}"
	// One thing goes through all variables, the last ones first.
	chain := "type A struct{};func main(){"
	for _, name := range names(230) {
		chain += name + ":=new(A);"
	}
	for i, name := range names(229) {
		chain += name + "=" + names(230)[i+1] + ";"
	}
	// Each call can call the method, by each dot, with all that can stand ahead.
	calls := "type A struct{};func(a *A)m(b *A)*A{return b};func main(){a:=new(A);f:=a.m;" +
		strings.Repeat("a=new(A);", 80) + strings.Repeat("f=a.m;", 80) + strings.Repeat("a=f(a);", 80) + "}"
	for _, x := range []struct {
		text         string
		sites, inner int
	}{
		// new, p:=new, p=new; the left and the right name of each p.a=p, and its dot
		{fields, 251 + 251 + 250*251 + 60*3*251, 60 * 251 * 251},
		// new; of each variable those behind it, in its :=, and as left and right name
		{chain + "}", 230 + 230*231/2 + (230*231/2 - 1) + 229*230/2, 0},
		// a's and f's sites are 81 each: their :=, new and dot, the method's param, own one, b in it, and sig
		{calls, 81 + 81 + 81 + 81 + 4*81 + 81 + 80*81 + 80*2*81 + 80*4*81, 0},
	} {
		sets, fault := Sets(x.text)
		held, _ := Fields(x.text)
		inner := 0
		for _, h := range held {
			inner += len(h.Set)
		}
		if got := len(slices.Concat(sets...)); fault.Code != api.OK || got != x.sites || inner != x.inner {
			t.Errorf("%.60q: %v: %d sites, %d inside, not %d, %d", x.text, fault, got, inner, x.sites, x.inner)
		}
	}
}
