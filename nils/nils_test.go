package nils

import (
	"fmt"
	"slices"
	"strings"
	"testing"

	"ravel/api"
	"ravel/check"
	"ravel/run"
	"ravel/syntax"
)

// mark asks both faces of a text, and answers it with marks: @ ahead of where nil can be, # ahead of where a run can fall for its sake.
func mark(t *testing.T, text string) string {
	t.Helper()
	nodes, fault := syntax.Parse(text)
	can, first := Can(text)
	falls, second := Falls(text)
	if fault.Code+first.Code+second.Code != api.OK || len(can) != len(nodes) {
		t.Fatalf("%q: %v, %v, %v, %d of %d nodes", text, fault, first, second, len(can), len(nodes))
	}
	for i, number := range falls {
		if i > 0 && falls[i-1] >= number {
			t.Errorf("%q: %v is not rising", text, falls)
		}
	}
	signs := map[int]string{}
	for number, is := range can {
		if is < 0 || is > 1 {
			t.Errorf("%q: %d of %d", text, is, number)
		}
		signs[nodes[number].At] += strings.Repeat("@", is)
	}
	for _, number := range falls {
		signs[nodes[number].At] += "#"
	}
	out := ""
	for i := range len(text) {
		out += signs[i] + text[i:i+1]
	}
	return out
}

// hold holds what is told of marked texts. Nodes of which something can be told have unlike places.
func hold(t *testing.T, marked ...string) {
	t.Helper()
	for _, want := range marked {
		text := strings.NewReplacer("@", "", "#", "").Replace(want)
		if got := mark(t, text); got != want {
			t.Errorf("%q, not\n%q", got, want)
		}
	}
}

// TestNone: V1: where no nil comes from.
func TestNone(t *testing.T) {
	hold(t,
		"func main(){}",
		"func main(){x:=1;print(x==-2);print(!true)}",
		"type A struct{};func main(){a:=new(A);print(a==a)}",
		"type A struct{k int;b bool};func main(){a:=new(A);print(a.k);print(a.b);a.k=1}",
		"type A struct{};func(a *A)m()*A{return a};func main(){a:=new(A);b:=a.m();f:=b.m;print(f()==a)}",
		"func main(){c:=make(chan chan int,1);c<-make(chan int);d:=<-c;close(d);select{case e:=<-c:e<-1}}",
		"func f()func(){return main};func main(){g:=f();g();go f()();h:=func(g func()){g()};h(main)}",
		"type I interface{m()I};type A struct{};func(a *A)m()I{return a};func main(){i:=new(A).m();i=i.m().m();a:=i.(*A)}",
	)
}

// TestNil: V1: it can be at a KNil, wherever that stands.
func TestNil(t *testing.T) {
	hold(t,
		"type A struct{};func main(){a:=new(A);print(a==@nil);print(@nil!=a)}",
		"func main(){print(main==@nil)}",
		"type A struct{};func f(@a *A){};func main(){f(@nil)}",
	)
}

// TestFields: V1: it can be in each field of each KNew that has things.
func TestFields(t *testing.T) {
	hold(t,
		"type A struct{};type B struct{a *A};func main(){b:=new(B);print(b@.a==@nil)}",
		"type I interface{};type A struct{k int;a *A;b bool;i I;c chan int;f func()int;d chan bool;n int};func main(){a:=new(A);print(a.k);@b:=a@.a;print(a.b);@i:=a@.i;@c:=a@.c;@f:=a@.f;@d:=a@.d;print(a.n)}",
		// Also of a field that is always assigned, and left of that.
		"type A struct{n *A};func main(){a:=new(A);a@.n=a;@b:=a@.n;print(@b@#.n==a)}",
		// Of a thing that can be there: of none, just what stands ahead can be nil.
		"type A struct{n *A};func main(){a:=new(A);@b:=a@.n;print(@b#.n==@nil)}",
		"type A struct{n *A};func main(){a:=new(A);print(a@.n#.n.n==a);a@.n#.n=@nil}",
		"type A struct{n *A};func f(a *A){print(a.n==@nil)};func main(){}",
		"type A struct{n *A};type B struct{n *B};func f@(@a *A)*A{return @a@#.n};func main(){f@(new(A));f@(@nil);b:=new(B)}",
	)
}

// TestClosed: V1: it can be in the channels of each KMake that can be closed.
func TestClosed(t *testing.T) {
	hold(t,
		"type A struct{};func main(){c:=make(chan *A);a:=<-c;d:=make(chan *A);close(d);@b:=@<-d}",
		"type A struct{};func main(){c:=make(chan *A);select{@case a:=<-c:print(@a==@nil);@case <-c:};close(c)}",
		// By another name, in another function, or where nobody comes.
		"type A struct{};func f(c chan *A){close(c)};func main(){c:=make(chan *A);d:=c;f(d);@a:=@<-c;e:=make(chan *A);b:=<-e}",
		"type A struct{};func main(){c:=make(chan *A);return;close(c);@<-c}",
		"type A struct{};func main(){c:=make(chan *A);if true{c=make(chan *A,1);d:=c;a:=new(A);d<-a};go func(){close(c)}();@b:=@<-c}",
		// What is closed is what the KMake made, not what is in it.
		"type A struct{};func main(){e:=make(chan chan *A,1);c:=make(chan *A,1);e<-c;close(<-e);d:=<-e;@a:=@<-d}",
		"type A struct{};func main(){e:=make(chan chan *A,1);c:=make(chan *A,1);e<-c;#close(@<-e);close(e);@d:=@<-e;@a:=@<-@d}",
		"type A struct{};func main(){e:=make(chan chan *A,1);c:=make(chan *A,1);e<-c;close(e);@d:=@<-e;a:=<-@d}",
	)
}

// TestLeft: V1: it can be at the KSig of a function that one can leave without KReturn.
func TestLeft(t *testing.T) {
	hold(t,
		"type A struct{};func f@()*A{};func g()*A{return new(A)};func main(){f@();a:=g()}",
		"type A struct{};func f@()*A{print(1)};func g()*A{panic(1)};func main(){@a:=f@();b:=g()}",
		"type A struct{};func f@(k int)*A{if k<1{return new(A)}};func g(k int)*A{if k<1{return new(A)}else{return new(A)}};func main(){@a:=f@(1);b:=g(1)}",
		"type A struct{};func f(k int)*A{if k<1{panic(1)};return new(A)};func main(){a:=f(1)}",
		// Conditions decide nothing; nor does what is evaluated.
		"type A struct{};func f@()*A{for true{}};func g@()*A{if true{return new(A)}};func h@()*A{for true{return new(A)}};func main(){f@();g@();h@()}",
		"type A struct{};func f()*A{for true{};return new(A)};func g@()*A{for true{break};h@()};func h@()*A{g@()};func main(){f()}",
		// A statement behind which it ends, but to which nobody comes.
		"type A struct{};func f()*A{return new(A);print(1)};func g()*A{panic(1);for true{}};func h()*A{if true{return new(A)}else{panic(1)};print(2)};func main(){f();g();h()}",
		"type A struct{};func f()*A{select{}};func g()*A{select{case <-make(chan int):return new(A)}};func h@()*A{select{case <-make(chan int):return new(A);default:}};func main(){f();g();h@()}",
		// Methods, literals, each by its own end.
		"type A struct{};func(a *A)m@()*A{};func(a *A)n()*A{return a};func main(){new(A).m@();new(A).n()}",
		"type A struct{};func f()*A{g:=func@()*A{};@a:=g@();return new(A)};func h@()*A{g:=func()*A{return new(A)};a:=g()};func main(){f();h@()}",
		// What comes back may be anything but a number or a truth value.
		"type I interface{};func f@()I{};func g@()chan int{};func h@()func(){};func i()int{};func j()bool{};func k(){};func main(){f@();g@();h@();i();j();k()}",
	)
}

// TestVariables: V1: where it can be in a variable, it can be at its names, also left.
func TestVariables(t *testing.T) {
	hold(t,
		"type A struct{};func main(){a:=new(A);b:=a;@c:=a;@c=@nil;@d:=@c;print(a==b);print(@c==@d)}",
		// Whatever comes first, and wherever it stands.
		"type A struct{};func main(){@a:=new(A);@b:=@a;@a=@nil;@b=new(A)}",
		"type A struct{};func main(){@a:=new(A);go func(){@a=@nil}();print(@a==@a)}",
		"type A struct{};func f(){return;@a:=new(A);@a=@nil};func main(){a:=new(A);if false{@a:=a;@a=@nil}}",
		// Round and round, against the order of the text.
		"type A struct{};func main(){@a:=new(A);@b:=new(A);@c:=new(A);@a=@b;@b=@c;@c=@a;@c=@nil;d:=new(A);e:=d;d=e}",
		"type A struct{};func main(){@a:=new(A);b:=new(A);@a=b;@a=@nil}",
	)
}

// TestChannels: V1: it goes by what can be in channels.
func TestChannels(t *testing.T) {
	hold(t,
		"type A struct{};func main(){c:=make(chan *A,1);c<-@nil;@a:=@<-c;d:=make(chan *A,1);d<-new(A);b:=<-d}",
		"type A struct{};func main(){c:=make(chan *A,1);select{case c<-@nil:case c<-new(A):};@a:=@<-c}",
		"type A struct{};func main(){c:=make(chan *A,1);d:=make(chan *A,1);select{case c<-@nil:case d<-new(A):@case <-c:case <-d:@case a:=<-c:print(@a==@nil);case b:=<-d:print(b==@nil)}}",
		// Of each channel that can be there.
		"type A struct{};func f(c chan *A,@a *A){c<-@a};func main(){c:=make(chan *A,1);d:=make(chan *A,1);e:=make(chan *A,1);f(c,@nil);f(d,new(A));@a:=@<-c;@b:=@<-d;e<-new(A);g:=<-e}",
		"type A struct{};func f(c chan *A)*A{return <-c};func main(){c:=make(chan *A,1);c<-new(A);f(c)}",
		"type A struct{};func f@(c chan *A)*A{return @<-c};func main(){c:=make(chan *A,1);d:=make(chan *A,1);c<-@nil;f@(c);f@(d);a:=<-d}",
		// From one to the next; nil itself as a channel is no way.
		"type A struct{};func main(){c:=make(chan *A,1);d:=make(chan *A,1);d<-@<-c;c<-@nil;@a:=@<-d}",
		"type B struct{c chan *B};func main(){b:=new(B);b@.c<-@nil;a:=<-b@.c;print(a==@nil)}",
	)
}

// TestCalls: V1: it goes by values and by what comes back, at all calls that can call the function.
func TestCalls(t *testing.T) {
	hold(t,
		"type A struct{};func f(@a *A,b *A,@c *A){print(@a==b);print(b==@c)};func main(){f(@nil,new(A),new(A));f(new(A),new(A),@nil)}",
		"type A struct{};func f@(@a *A)*A{return @a};func g(a *A)*A{return a};func main(){f@(@nil);@b:=f@(new(A));c:=g(new(A))}",
		"type A struct{};func f@()*A{return new(A);return @nil};func main(){@a:=f@()}",
		// Where nobody calls, just a KNil has it.
		"type A struct{};func f(a *A,b *A)*A{return a};func g@()*A{return @nil};func main(){}",
		// By variables, literals, and by a go.
		"type A struct{};func f@(@a *A)*A{return @nil};func main(){h:=f;h=func(@a *A)*A{return new(A)};@b:=h@(@nil)}",
		"type A struct{};func f(@a *A){};func g(a *A){};func main(){go f(@nil);go g(new(A));go func(@a *A,b *A){}(@nil,new(A))}",
		// A KReturn is of the nearest function or literal.
		"type A struct{};func f()*A{g:=func@()*A{return @nil};g@();return new(A)};func main(){a:=f()}",
		"type A struct{};func f@()*A{g:=func()*A{return new(A)};a:=g();return @nil};func main(){@a:=f@()}",
		// What is called is nil, and nothing else.
		"type B struct{f func(*B)*B};func main(){b:=new(B);print(b@.f#(@nil)==@nil)}",
		"type B struct{f func(*B)*B};func g(@b *B)*B{return new(B)};func main(){b:=new(B);b@.f=g;print(b@.f#(@nil)==b)}",
		"func f@()func(){return @nil};func main(){f@()#();go f@()#();@g:=f@();@g#();@g=main}",
	)
}

// TestMethods: V1: a method of a struct can be had of nil, one of an interface can not.
func TestMethods(t *testing.T) {
	hold(t,
		"type A struct{n *A};func(@a *A)m(){print(@a==@nil)};func main(){a:=new(A);a@.n.m()}",
		"type A struct{n *A};func(@a *A)m@()*A{return @a@#.n};func main(){a:=new(A);@b:=a.m@().m@();f:=@b.m;f@()}",
		// Where nobody calls it nothing goes over; where it is called by another thing neither.
		"type A struct{n *A};func(a *A)m(){print(a==@nil)};func main(){a:=new(A);f:=a@.n.m}",
		"type A struct{n *A};func(a *A)m(){print(a==@nil)};func main(){a:=new(A);f:=a@.n.m;g:=a.m;g()}",
		"type A struct{n *A};func(@a *A)m(){print(@a==@nil)};func main(){a:=new(A);f:=a@.n.m;g:=a.m;g();go f()}",
		"type A struct{n *A};type B struct{};func(@a *A)m(){};func(b *B)m(){};func(a *A)o(){};func main(){a:=new(A);a@.n.m();new(B).m();a.o()}",
		// Values, and what comes back.
		"type A struct{};func(a *A)m@(@b *A,c *A)*A{return @b};func main(){f:=new(A).m;@b:=f@(@nil,new(A))}",
		// Of an interface: each struct's method whose thing can be there; the thing is there.
		"type I interface{m(b I)I};type A struct{};type B struct{};type C struct{};func(a *A)m@(@b I)I{return @b};func(b *B)m(@c I)I{return b};func(c *C)m(d I)I{return c};func f(@i I){@j:=@i#.m@(@nil)};func main(){f(new(A));f(new(B));f(@nil);c:=new(C)}",
		"type I interface{m()};type A struct{i I};func(a *A)m(){print(a==@nil)};func main(){a:=new(A);a@.i#.m();a@.i=a;f:=a@.i#.m;f()}",
		"type I interface{m()};type A struct{i I};func(@a *A)m(){print(@a==@nil)};func f(@a *A){@a.m()};func main(){a:=new(A);a@.i#.m();f(@nil)}",
	)
}

// TestElse: V1: at no other node it can be, whatever is in there.
func TestElse(t *testing.T) {
	hold(t,
		"type I interface{};type A struct{};func f(@i I){a:=@i#.(*A);print(a==@nil)};func main(){f(@nil);f(new(A))}",
		"type I interface{};type A struct{};func f(@i I)*A{return @i#.(*A)};func main(){@a:=f(@nil);@a=@nil}",
		"type A struct{n *A};func main(){print(new(A)==@nil);print(make(chan *A)==@nil);print(func()*A{return new(A)}==@nil);print(main==@nil)}",
		"type A struct{};func(a *A)m(){};func main(){@a:=new(A);@a=@nil;f:=@a.m;print(f==@nil)}",
		// Types, fields, and interfaces' methods.
		"type I interface{m(a *A)*A};type A struct{n *A;f func(*A)*A};func(@a *A)m@(@b *A)*A{return @a};func f@(@i I)*A{return @i#.m@(@nil)};func main(){f@(@nil);f@(new(A));@a:=new(A);@a=@nil;@a.m@(@a)}",
	)
}

// TestTypes: V2: of numbers, of truth values, and of what does not come back it is not told.
func TestTypes(t *testing.T) {
	hold(t,
		"func main(){c:=make(chan int);close(c);x:=<-c;print(x+<-c);select{case y:=<-c:print(-y)};d:=make(chan bool);close(d);print(!<-d)}",
		"func f()int{};func g()bool{};func h(){};func i(k int,b bool){};func main(){print(f());print(g());h();i(f(),g());l:=func()int{};x:=l();go h()}",
		"type A struct{k int;c chan int};func main(){c:=make(chan int);close(c);a:=new(A);a.k=<-c;print(a.k);print(<-a@.c)}",
		"func main(){c:=make(chan chan bool);close(c);@d:=@<-c;print(<-@d);select{@case e:=<-c:print(<-@e);@case <-c:};select{case <-@d:}}",
	)
}

// TestFalls: V3: each kind of node at which a run can fall for nil's sake.
func TestFalls(t *testing.T) {
	head := "type I interface{m()};type A struct{k int;n *A;f func();c chan int;i I};func(a *A)m(){};"
	hold(t,
		// A field, read and written.
		head+"func main(){a:=new(A);print(a@.n#.k);a@.n#.k=1;a.k=2}",
		head+"func f(@a *A){print(@a#.k);@a#.k=1;print(@a@#.n==@nil);@a@#.n=@a};func main(){f(@nil);f(new(A))}",
		// A struct's method does not; an interface's does, also if it is not called.
		"type I interface{m()};type A struct{n *A;i I};func(@a *A)m(){};func main(){a:=new(A);a@.n.m();f:=a@.n.m;a@.i#.m();f=a@.i#.m;go a@.i#.m();f()}",
		// An assertion.
		head+"func f(@i I){@i#.(*A).k=1;a:=@i#.(*A)};func g(i I){a:=i.(*A)};func main(){f(@nil);g(new(A))}",
		// What is called, also by a go.
		head+"func main(){a:=new(A);a@.f#();go a@.f#();@f:=a@.f;@f#();g:=main;g();func(){}();a.m()}",
		// A channel that is closed; who sends and takes waits.
		head+"func main(){a:=new(A);#close(a@.c);a@.c<-1;<-a@.c;select{case a@.c<-1:case <-a@.c:};c:=make(chan int);close(c);close(c)}",
		// Other falls are not for its sake.
		"func main(){c:=make(chan int);close(c);c<-1;print(1/0);panic(1);main()}",
		"type I interface{};type A struct{};type B struct{};func f(i I){a:=i.(*A)};func main(){f(new(B))}",
	)
}

// TestExample: the numbers of nodes.
func TestExample(t *testing.T) {
	// nodes: 0 ptr, 1 field, 2 struct, 3 sig, 4 new, 5 a:=, 6 a, 7 a.n, 8 b:=, 9 b, 10 b.n, 11 nil, 12 ==, 13 print, 14 block, 15 func, 16 program
	text := "type A struct {n *A};func main(){a:=new(A);b:=a.n;print(b.n==nil)}"
	can, first := Can(text)
	falls, second := Falls(text)
	if got := fmt.Sprint(can, falls, first, second); got != "[0 0 0 0 0 0 0 1 1 1 0 1 0 0 0 0 0] [10] {0 0} {0 0}" {
		t.Error(got)
	}
}

// TestRuns: V3: a run that falls because something is nil falls at one of them.
func TestRuns(t *testing.T) {
	head := "type I interface{m()};type A struct{k int;n *A;f func();c chan int;i I};func(a *A)m(){a.k=1};func(a *A)by()*A{};"
	for _, x := range []struct {
		marked string // ? ahead of where it falls
		isTold bool
	}{
		{"func main(){a:=new(A);print(a.n?.k)}", true},
		{"func main(){a:=new(A);a.n?.k=a.k}", true},
		{"func main(){a:=new(A);a.i?.m()}", true},
		{"func main(){a:=new(A);f:=a.i?.m}", true},
		{"func main(){a:=new(A);b:=a.i?.(*A)}", true},
		{"func main(){a:=new(A);a.f?()}", true},
		{"func main(){a:=new(A);go a.f?()}", true},
		{"func main(){a:=new(A);?close(a.c)}", true},
		{"func main(){a:=new(A).by().by();print(a?.k)}", true},
		{"func main(){c:=make(chan *A);close(c);select{case a:=<-c:print(a?.k)}}", true},
		{"func f(a *A)*A{return a};func main(){a:=new(A);go func(){a=f(nil)}();print(1);print(1);print(a?.k)}", true},
		{"func main(){c:=make(chan int);close(c);?close(c)}", false},
		{"type B struct{};func(b *B)m(){};func f(i I)*A{return i?.(*A)};func main(){f(new(B))}", false},
		{"func main(){main?()}", false},
	} {
		before, after, _ := strings.Cut(head+x.marked, "?")
		text := before + after
		nodes, _ := syntax.Parse(text)
		trace, fault := run.Run(text, []int{1, 1, 1})
		falls, _ := Falls(text)
		if fault.Code != api.OK || trace.Status != api.Fell || nodes[trace.At].At != len(before) {
			t.Fatalf("%q: %v, %v", x.marked, trace, fault)
		}
		if slices.Contains(falls, trace.At) != x.isTold {
			t.Errorf("%q: falls at %d, told are %v", x.marked, trace.At, falls)
		}
	}
	// A method had of nil falls within itself.
	text := head + "func main(){a:=new(A);a.n.m()}"
	trace, _ := run.Run(text, nil)
	falls, _ := Falls(text)
	if nodes, _ := syntax.Parse(text); trace.Status != api.Fell || !slices.Equal(falls, []int{trace.At}) || nodes[trace.At].Text != "k" {
		t.Error(trace, falls)
	}
}

// TestFaults: both answer Check's fault, and nothing else.
func TestFaults(t *testing.T) {
	for _, x := range []struct {
		text string
		code api.Errno
	}{
		{"", api.ErrMain},
		{"type A struct{n *A};func f(a *A){print(a.n==nil)}", api.ErrMain},
		{"type A struct{};func main()*A{return nil}", api.ErrMain},
		{strings.Repeat(" ", api.MaxText+1), api.ErrSize},
		{"func main(){print(main==nil)\xff}", api.ErrRune},
		{"func main(){print(main==nil}", api.ErrSyntax},
		{"func main(){print(" + strings.Repeat("(", 40) + "main==nil" + strings.Repeat(")", 40) + ")}", api.ErrDeep},
		{"func main(){" + strings.Repeat("print(main==nil);", 320) + "}", api.ErrFull},
		{"func main(){print(a==nil)}", api.ErrName},
		{"type A struct{n *A};func main(){new(A).m.n=nil}", api.ErrName},
		{"func main(){a:=main;a:=main;a=nil}", api.ErrTwice},
		{"func main(){a:=nil}", api.ErrType},
		{"func main(){print(nil==nil)}", api.ErrType},
		{"func main(){close(nil)}", api.ErrType},
		{"func main(){nil()}", api.ErrType},
		{"func main(){x:=1;x=nil}", api.ErrType},
		{"func f()func(){return};func main(){f()()}", api.ErrCount},
		{"func main(){c:=make(chan func(),9);c<-nil}", api.ErrRange},
	} {
		_, want := check.Check(x.text)
		if want.Code != x.code {
			t.Fatalf("%q: %v", x.text, want)
		}
		can, first := Can(x.text)
		falls, second := Falls(x.text)
		if first != want || second != want || len(can)+len(falls) > 0 {
			t.Errorf("%q: %v, %v, not %v; %v, %v", x.text, first, second, want, can, falls)
		}
	}
}

// TestNewMemory: P3: what is answered is not kept, and the same is answered again.
func TestNewMemory(t *testing.T) {
	text := "type I interface{m(a *A)I};type A struct{n *A;i I};func(a *A)m(b *A)I{return b.i};func f(a *A){a.n.i=a;print(a.i.m(nil)==nil)};func main(){c:=make(chan *A,1);close(c);f(<-c);f(new(A));g:=new(A).n.m;g(new(A).n)}"
	ask := func() string {
		can, first := Can(text)
		falls, second := Falls(text)
		all := fmt.Sprint(can, falls, first, second)
		for _, list := range [][]int{can, falls} {
			for i := range list[:cap(list)] {
				list[:cap(list)][i] = -1
			}
		}
		return all
	}
	want := ask()
	for range 50 {
		if got := ask(); got != want {
			t.Fatalf("%s, not %s", got, want)
		}
	}
}

// TestGreat: P1: programs as great as may be, in which nil goes far, or by many ways.
func TestGreat(t *testing.T) {
	chain := func(names []string, last string) string {
		text := "type A struct{};func main(){"
		for _, name := range names {
			text += name + ":=new(A);"
		}
		for i, name := range names[1:] {
			text += names[i] + "=" + name + ";"
		}
		return text + names[len(names)-1] + "=" + last + "}"
	}
	var names []string
	for i := range 230 {
		names = append(names, string(rune('a'+i/26))+string(rune('a'+i%26))+"z")
	}
	for _, x := range []struct {
		text       string
		can, falls int
	}{
		// From the last variable to the first one: each one, its name on the left, and on the right; and the nil.
		{chain(names, "nil"), 230 + 230 + 229 + 1, 0},
		{chain(names, "new(A)"), 0, 0},
		// The fields of many things, all of which can be in one variable: the dots of the assignments, and the nil.
		{"type A struct{n *A};func main(){a:=new(A);" + strings.Repeat("a=new(A);a.n=a;", 150) + "a.n.n=nil}", 150 + 3, 1},
		// A variable that goes from field to field: itself, its names, the dots, and the nil.
		{"type A struct{n *A};func main(){a:=new(A);" + strings.Repeat("a=a.n;", 230) + "a.n=nil}", 1 + 2*230 + 1 + 230 + 1 + 1, 231},
		// Each of many channels carries what each of many sends sends.
		{"type A struct{};func main(){c:=make(chan *A,1);" + strings.Repeat("c=make(chan *A,1);", 100) + strings.Repeat("c<-nil;", 100) + strings.Repeat("<-c;", 100) + "}", 200, 0},
		{"type A struct{};func main(){c:=make(chan *A,1);" + strings.Repeat("c=make(chan *A,1);", 100) + strings.Repeat("<-c;", 200) + "}", 0, 0},
		// Each of many calls can call the method, by each of many dots: its own param, and the names of that; the variable, the names of that, and the nil.
		{"type A struct{};func(a *A)m(){print(a==a)};func main(){a:=new(A);a=nil;f:=a.m;" + strings.Repeat("f=a.m;", 120) + strings.Repeat("f();", 120) + "}", 1 + 2 + 1 + 1 + 121 + 1, 0},
		// Each of many literals is called by each of many calls: their params, the names of these, and the nils.
		{"func main(){f:=func(g func()){g()};" + strings.Repeat("f=func(g func()){g()};", 60) + strings.Repeat("f(nil);", 60) + "}", 61 + 61 + 60, 61},
	} {
		can, fault := Can(x.text)
		falls, _ := Falls(x.text)
		many := 0
		for _, is := range can {
			many += is
		}
		if fault.Code != api.OK || many != x.can || len(falls) != x.falls {
			t.Errorf("%.60q: %v: %d can, %d fall, not %d, %d", x.text, fault, many, len(falls), x.can, x.falls)
		}
	}
}
