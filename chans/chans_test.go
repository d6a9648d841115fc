package chans

import (
	"fmt"
	"slices"
	"strings"
	"testing"

	"ravel/api"
	"ravel/check"
	"ravel/run"
	"ravel/syntax"
)

// unmark takes the marks (@ and a sign) out of a text, and answers which ones stood ahead of which byte.
func unmark(marked string) (string, map[int]string) {
	var text strings.Builder
	marks := map[int]string{}
	for i := 0; i < len(marked); i++ {
		if marked[i] == '@' {
			i++
			marks[text.Len()] = marked[i : i+1]
			continue
		}
		text.WriteByte(marked[i])
	}
	return text.String(), marks
}

// tell asks both faces of a marked text: of each KMake its sign, and the signs of who sends, takes, shuts; and the signs of who never does anything. Nodes that are not marked are their numbers.
func tell(t *testing.T, marked string) (told, idle string) {
	t.Helper()
	text, marks := unmark(marked)
	nodes, fault := syntax.Parse(text)
	ends, first := Ends(text)
	never, second := Never(text)
	if fault.Code+first.Code+second.Code != api.OK {
		t.Fatalf("%q: %v, %v, %v", text, fault, first, second)
	}
	words := func(list []int) string {
		if !slices.IsSorted(list) || len(slices.Compact(slices.Clone(list))) != len(list) {
			t.Errorf("%q: %v is not rising", text, list)
		}
		out := ""
		for _, number := range list {
			mark := marks[nodes[number].At]
			if mark == "" {
				mark = fmt.Sprintf("<%d>", number)
			}
			out += mark
		}
		return out
	}
	var sites []int
	var parts []string
	for _, e := range ends {
		sites = append(sites, e.Site)
		parts = append(parts, words([]int{e.Site})+"="+words(e.Sends)+"/"+words(e.Takes)+"/"+words(e.Shuts))
	}
	words(sites)
	return strings.Join(parts, " "), words(never)
}

// hold holds what is told of a marked text. Signs stand in the order of their nodes.
func hold(t *testing.T, marked, told, idle string) {
	t.Helper()
	gotTold, gotIdle := tell(t, marked)
	if gotTold != told || gotIdle != idle {
		t.Errorf("%q:\n%q, %q,\nnot\n%q, %q", marked, gotTold, gotIdle, told, idle)
	}
}

// TestNone: U1, U2: programs without channels, and channels to which nobody does anything.
func TestNone(t *testing.T) {
	hold(t, "func main(){}", "", "")
	hold(t, "func f(c chan int){};func main(){}", "", "")
	hold(t, "func main(){print(1);panic(2);go main();select{default:}}", "", "")
	hold(t, "func main(){c:=@cmake(chan int);d:=@dmake(chan bool,8)}", "c=// d=//", "")
	hold(t, "type A struct{c chan int};func main(){a:=new(A);a.c=@cmake(chan int);print(a.c==@dmake(chan int,1))}", "c=// d=//", "")
	// Also one that nobody has, and one to which nobody comes.
	hold(t, "func f(){c:=@cmake(chan int)};func main(){return;d:=@dmake(chan int)}", "c=// d=//", "")
}

// TestEnds: U1: each kind of who is at a channel.
func TestEnds(t *testing.T) {
	hold(t, "func main(){c:=@cmake(chan int);@sc<-1}", "c=s//", "s")
	hold(t, "func main(){c:=@cmake(chan int);print(@t<-c)}", "c=/t/", "t")
	hold(t, "func main(){c:=@cmake(chan int);@t<-c}", "c=/t/", "t")
	hold(t, "func main(){c:=@cmake(chan int);@xclose(c)}", "c=//x", "")
	hold(t, "func main(){c:=@cmake(chan int);select{@scase c<-1:}}", "c=s//", "s")
	hold(t, "func main(){c:=@cmake(chan int);select{@tcase <-c:}}", "c=/t/", "t")
	hold(t, "func main(){c:=@cmake(chan int);select{@tcase n:=<-c:print(n);default:}}", "c=/t/", "t")
	// All of them together, each list in the order of nodes; each KMake with its own.
	hold(t, "func main(){c:=@cmake(chan int);d:=@dmake(chan int);@xclose(c);@t<-c;@sc<-1;select{@ucase <-c:@yclose(d);@rc<-2;@vcase c<-@w<-c:default:};@z<-d}", "c=srv/tuw/x d=/z/y", "")
	// What a case's block does stands ahead of the case.
	hold(t, "func main(){c:=@cmake(chan int);select{@acase c<-1:@bc<-2;@cc<-3;@dcase c<-4:@ec<-5}}", "c=bcaed//", "bcaed")
	// A channel's own node, in brackets, too.
	hold(t, "func main(){(@cmake(chan int,1))<-1;@t<-(@dmake(chan int));@xclose(@emake(chan bool))}", "c=<4>// d=/t/ e=//x", "t")
}

// TestOnlyChannel: U1: what is sent, and what comes out, is not what is met.
func TestOnlyChannel(t *testing.T) {
	hold(t, "func main(){e:=@emake(chan chan int);c:=@cmake(chan int);@se<-c}", "e=s// c=//", "s")
	hold(t, "func main(){e:=@emake(chan chan int,1);c:=@cmake(chan int);@se<-c;d:=@t<-e;@ud<-1}", "e=s/t/ c=u//", "u")
	hold(t, "func main(){e:=@emake(chan chan int,1);c:=@cmake(chan int);select{@scase e<-c:@tcase d:=<-e:print(@u<-d)}}", "e=s/t/ c=/u/", "u")
	hold(t, "func main(){e:=@emake(chan chan int,1);c:=@cmake(chan int);@se<-c;print(@u<-@t<-e)}", "e=s/t/ c=/u/", "u")
	hold(t, "func main(){e:=@emake(chan chan int,1);@se<-@cmake(chan int,1);@xclose(@t<-e)}", "e=s/t/ c=//x", "")
	hold(t, "func main(){c:=@cmake(chan int,1);d:=@dmake(chan int,1);@sc<-@t<-d}", "c=s// d=/t/", "t")
}

// TestWays: U1: channels that come by variables, calls, fields, literals, methods, interfaces, assertions.
func TestWays(t *testing.T) {
	hold(t, "func main(){c:=@cmake(chan int);d:=c;e:=d;@se<-1;@td<-2;@xclose(c)}", "c=st//x", "")
	// All that can be in a variable, whenever: of each one it is told.
	hold(t, "func main(){c:=@cmake(chan int);@sc<-1;c=@dmake(chan int);@t<-c;c=nil;@xclose(c)}", "c=s/t/x d=s/t/x", "")
	hold(t, "func main(){c:=@cmake(chan int);d:=@dmake(chan int);e:=c;if true{e=d};@se<-1;@t<-d;@u<-c}", "c=s/u/ d=s/t/", "")
	// Params, and what comes back.
	hold(t, "func f(c chan int){@sc<-1};func main(){f(@cmake(chan int));f(@dmake(chan int));e:=@emake(chan int)}", "c=s// d=s// e=//", "s")
	hold(t, "func f()chan int{return @cmake(chan int)};func main(){@sf()<-1;@t<-f()}", "c=s/t/", "")
	hold(t, "func f(c chan int,d chan int)chan int{return d};func main(){c:=@cmake(chan int);d:=@dmake(chan int);@t<-f(c,d);@xclose(c)}", "c=//x d=/t/", "t")
	// Another thread's, too.
	hold(t, "func f(c chan int){@sc<-1};func main(){c:=@cmake(chan int);go f(c);@t<-c}", "c=s/t/", "")
	hold(t, "func main(){c:=@cmake(chan int);d:=@dmake(chan int);go func(){@sc<-1;@xclose(d)}();@t<-c;@u<-d}", "c=s/t/ d=/u/x", "")
	// Fields: of each thing its own.
	hold(t, "type A struct{c chan int;d chan int};func main(){a:=new(A);b:=new(A);a.c=@cmake(chan int);a.d=@dmake(chan int);b.c=@emake(chan int);@sa.c<-1;@t<-a.d;@xclose(b.c);@ub.d<-1}", "c=s// d=/t/ e=//x", "stu")
	// Methods, of structs and of interfaces.
	hold(t, "type A struct{c chan int};func(a *A)m(){@sa.c<-1};func main(){a:=new(A);a.c=@cmake(chan int);a.m();@t<-a.c}", "c=s/t/", "")
	hold(t, "type I interface{m(c chan int)};type A struct{};type B struct{};func(a *A)m(c chan int){@sc<-1};func(b *B)m(c chan int){@t<-c};func by(i I){i.m(@cmake(chan int))};func main(){by(new(A))}", "c=s//", "st")
	hold(t, "type I interface{m(c chan int)};type A struct{};type B struct{};func(a *A)m(c chan int){@sc<-1};func(b *B)m(c chan int){@t<-c};func by(i I){i.m(@cmake(chan int))};func main(){by(new(A));by(new(B))}", "c=s/t/", "")
	hold(t, "type I interface{};type A struct{c chan int};type B struct{c chan int};func by(i I){@si.(*A).c<-1};func main(){a:=new(A);a.c=@cmake(chan int);b:=new(B);b.c=@dmake(chan int);by(a);by(b)}", "c=s// d=//", "s")
	// Literals in variables, in fields.
	hold(t, "func main(){f:=func(c chan int){@sc<-1};f(@cmake(chan int));f=func(c chan int){@t<-c}}", "c=s/t/", "")
	// What is not called, and where one does not come, counts as it stands.
	hold(t, "func f(c chan int){@sc<-1};func main(){c:=@cmake(chan int);return;@t<-c}", "c=/t/", "st")
	hold(t, "func main(){c:=@cmake(chan int);f:=func(){@sc<-1};if false{@t<-c}}", "c=s/t/", "")
}

// TestNeverSends: U2: sends that can never do anything.
func TestNeverSends(t *testing.T) {
	// Room is enough, also without anybody who takes; more than room does not matter.
	hold(t, "func main(){c:=@cmake(chan int,1);@sc<-1}", "c=s//", "")
	hold(t, "func main(){c:=@cmake(chan int,8);select{@scase c<-1:@tcase c<-2:}}", "c=st//", "")
	hold(t, "func main(){c:=@cmake(chan int,0);@sc<-1;@tc<-2;select{@ucase c<-3:default:}}", "c=stu//", "stu")
	hold(t, "func main(){c:=@cmake(chan int,1);@sc<-1;@tc<-2}", "c=st//", "")
	// Who takes, by a case, too; also one that stands in the same thread, or in the same select.
	hold(t, "func main(){c:=@cmake(chan int);@sc<-1;@t<-c}", "c=s/t/", "")
	hold(t, "func main(){c:=@cmake(chan int);@sc<-1;select{@tcase <-c:default:}}", "c=s/t/", "")
	hold(t, "func main(){c:=@cmake(chan int);select{@scase c<-1:@tcase <-c:}}", "c=s/t/", "")
	hold(t, "func main(){c:=@cmake(chan int);@sc<-@t<-c}", "c=s/t/", "")
	// Who shuts: there it falls.
	hold(t, "func main(){c:=@cmake(chan int);@xclose(c);@sc<-1}", "c=s//x", "")
	hold(t, "func main(){c:=@cmake(chan int);select{@scase c<-1:};@xclose(c)}", "c=s//x", "")
	// Other sends are of no help.
	hold(t, "func main(){c:=@cmake(chan int);go func(){@sc<-1}();@tc<-2}", "c=st//", "st")
	// Of several channels one is enough, whichever; what helps has to be at one that it has.
	hold(t, "func f(c chan int){@sc<-1};func main(){f(@cmake(chan int));f(@dmake(chan int,2))}", "c=s// d=s//", "")
	hold(t, "func f(c chan int){@sc<-1};func main(){f(@dmake(chan int,2));f(@cmake(chan int))}", "d=s// c=s//", "")
	hold(t, "func f(c chan int){@sc<-1};func main(){c:=@cmake(chan int);d:=@dmake(chan int);f(c);f(d);@t<-d;@uc<-1}", "c=su// d=s/t/", "u")
	hold(t, "func f(c chan int){@sc<-1};func main(){c:=@cmake(chan int);d:=@dmake(chan int);f(c);f(d);@xclose(c);@ud<-1}", "c=s//x d=su//", "u")
	hold(t, "func f(c chan int){@sc<-1};func main(){c:=@cmake(chan int);d:=@dmake(chan int,1);f(c);@t<-d;@xclose(d)}", "c=s// d=/t/x", "s")
}

// TestNeverTakes: U2: receives that can never do anything.
func TestNeverTakes(t *testing.T) {
	// Room is of no help.
	hold(t, "func main(){c:=@cmake(chan int);@t<-c}", "c=/t/", "t")
	hold(t, "func main(){c:=@cmake(chan int,8);@t<-c;select{@ucase <-c:@vcase n:=<-c:default:}}", "c=/tuv/", "tuv")
	// Who sends, by a case, too; also one that stands in the same thread, or in the same select.
	hold(t, "func main(){c:=@cmake(chan int);@t<-c;@sc<-1}", "c=s/t/", "")
	hold(t, "func main(){c:=@cmake(chan int);@t<-c;select{@scase c<-1:default:}}", "c=s/t/", "")
	hold(t, "func main(){c:=@cmake(chan int);select{@tcase n:=<-c:@scase c<-1:}}", "c=s/t/", "")
	// Who shuts.
	hold(t, "func main(){c:=@cmake(chan int);@xclose(c);@t<-c}", "c=/t/x", "")
	hold(t, "func main(){c:=@cmake(chan int,2);select{@tcase <-c:default:};@xclose(c)}", "c=/t/x", "")
	// Other receives are of no help.
	hold(t, "func main(){c:=@cmake(chan int);go func(){@t<-c}();@u<-c}", "c=/tu/", "tu")
	// Of several channels one is enough.
	hold(t, "func f(c chan int){@t<-c};func main(){c:=@cmake(chan int);d:=@dmake(chan int);f(c);f(d);@sd<-1;@u<-c}", "c=/tu/ d=s/t/", "u")
	hold(t, "func f(c chan int){@t<-c};func main(){c:=@cmake(chan int);d:=@dmake(chan int);f(c);f(d);@xclose(c);@u<-d}", "c=/t/x d=/tu/", "u")
	hold(t, "func f(c chan int){@t<-c};func main(){c:=@cmake(chan int);d:=@dmake(chan int,1);f(c);@sd<-1;@xclose(d)}", "c=/t/ d=s//x", "t")
}

// TestEmpty: U2: where no channel can be, nobody sends or takes; who shuts is not told, though that falls.
func TestEmpty(t *testing.T) {
	hold(t, "type A struct{c chan int};func main(){a:=new(A);@sa.c<-1;@t<-a.c;@xclose(a.c);select{@ucase a.c<-1:@vcase <-a.c:@wcase n:=<-a.c:default:}}", "", "stuvw")
	hold(t, "func f(c chan int){@sc<-1;@t<-c;close(c)};func main(){f(nil)}", "", "st")
	hold(t, "func f()chan bool{};func main(){select{@scase f()<-true:@tcase <-f():};close(f())}", "", "st")
	hold(t, "func main(){e:=@emake(chan chan int);@u<-@t<-e}", "e=/t/", "tu")
	// Of no use is one that is there and has room, if it is another one.
	hold(t, "func f(c chan int){@sc<-1};func main(){c:=@cmake(chan int,8);@tc<-2;@u<-c;@xclose(c);f(nil)}", "c=t/u/x", "s")
}

// TestExample: the numbers of nodes.
func TestExample(t *testing.T) {
	// nodes: 0 sig, 1 int, 2 make, 3 c:=, 4 int, 5 make, 6 d:=, 7 c, 8 number, 9 send, 10 d, 11 number, 12 send, 13 d, 14 recv, ..
	text := "func main(){c:=make(chan int);d:=make(chan int, 1);c<-1;d<-1;print(<-d)}"
	ends, first := Ends(text)
	never, second := Never(text)
	if got := fmt.Sprint(ends, never, first, second); got != "[{2 [9] [] []} {5 [12] [14] []}] [9] {0 0} {0 0}" {
		t.Error(got)
	}
	never, first = Never("func main(){c:=make(chan int);c<-1}")
	if got := fmt.Sprint(never, first); got != "[6] {0 0}" {
		t.Error(got)
	}
}

// TestRuns: U2: in runs who can never do anything has no event, and nothing falls there; of all others it is held how many do nothing by the script without numbers.
func TestRuns(t *testing.T) {
	for _, x := range []struct {
		text string
		idle int // how many do nothing, though they could
	}{
		{"func main(){c:=make(chan int);c<-1}", 0},
		{"func main(){c:=make(chan int,4);<-c}", 0},
		{"func main(){c:=make(chan int,1);c<-1;print(<-c)}", 0},
		{"func main(){c:=make(chan int);go func(){c<-1}();print(<-c)}", 0},
		{"func main(){c:=make(chan int);close(c);print(<-c);select{case n:=<-c:print(n)};c<-1}", 0},
		{"func main(){c:=make(chan int);close(c);select{case c<-1:}}", 0},
		// A thread does not meet itself.
		{"func main(){c:=make(chan int);d:=make(chan int,1);select{case c<-1:case <-c:case d<-1:print(1)}}", 2},
		{"func main(){c:=make(chan int);c<-<-c}", 2},
		{"func main(){c:=make(chan int);d:=make(chan int,1);go func(){c<-1}();select{case <-d:default:print(<-c)};<-d}", 0},
		{"type A struct{c chan int};func main(){a:=new(A);select{case a.c<-1:case <-a.c:default:print(1)};go func(){<-a.c}();a.c<-1}", 0},
	} {
		nodes, _ := syntax.Parse(x.text)
		never, fault := Never(x.text)
		trace, _ := run.Run(x.text, nil)
		if fault.Code != api.OK {
			t.Fatal(x.text, fault)
		}
		did := map[int]bool{}
		for _, e := range trace.Events {
			did[e.Node] = true
		}
		if trace.Status == api.Fell {
			did[trace.At] = true
		}
		idle := 0
		for number, n := range nodes {
			deed, isNever := deedOf(n.Kind), slices.Contains(never, number)
			if did[number] && isNever {
				t.Errorf("%q: %d does something, of %v", x.text, number, never)
			}
			if (deed == api.KSend || deed == api.KRecv) && !did[number] && !isNever {
				idle++
			}
		}
		if idle != x.idle {
			t.Errorf("%q: %d do nothing, though not of %v", x.text, idle, never)
		}
	}
}

// TestFaults: both answer Check's fault, and nothing else.
func TestFaults(t *testing.T) {
	for _, x := range []struct {
		text string
		code api.Errno
	}{
		{"", api.ErrMain},
		{"func f(){c:=make(chan int);c<-1}", api.ErrMain},
		{"func main()int{c:=make(chan int);c<-1}", api.ErrMain},
		{strings.Repeat(" ", api.MaxText+1), api.ErrSize},
		{"func main(){c:=make(chan int);c<-\xff}", api.ErrRune},
		{"func main(){c:=make(chan int);c<-}", api.ErrSyntax},
		{"func main(){c:=make(chan int);print(" + strings.Repeat("(", 40) + "<-c" + strings.Repeat(")", 40) + ")}", api.ErrDeep},
		{"func main(){c:=make(chan int);" + strings.Repeat("c<-1;", 500) + "}", api.ErrFull},
		{"func main(){c:=make(chan int);d<-1}", api.ErrName},
		{"func main(){c:=make(chan int);c<-1;c:=make(chan int)}", api.ErrTwice},
		{"func main(){c:=make(chan int);c<-true}", api.ErrType},
		{"func main(){c:=1;<-c}", api.ErrType},
		{"func main(){close(nil)}", api.ErrType},
		{"func f(c chan int){};func main(){f(make(chan int),make(chan int))}", api.ErrCount},
		{"func main(){c:=make(chan int,9);c<-1}", api.ErrRange},
	} {
		_, want := check.Check(x.text)
		if want.Code != x.code {
			t.Fatalf("%q: %v", x.text, want)
		}
		ends, first := Ends(x.text)
		never, second := Never(x.text)
		if first != want || second != want || len(ends)+len(never) > 0 {
			t.Errorf("%q: %v, %v, not %v; %v, %v", x.text, first, second, want, ends, never)
		}
	}
}

// TestNewMemory: P3: what is answered is not kept, no two lists of it share memory, and the same is answered again.
func TestNewMemory(t *testing.T) {
	text := "func f(c chan int){c<-1;<-c;c<-2;select{case c<-3:case <-c:};c<-4;close(c);close(c)};func main(){c:=make(chan int);d:=make(chan int,1);e:=make(chan int,2);f(c);f(d);f(e);close(d);<-e;g:=make(chan int);g<-1;g<-2;h:=make(chan int);<-h}"
	ask := func() string {
		ends, first := Ends(text)
		never, second := Never(text)
		all := fmt.Sprint(ends, never, first, second)
		lists := [][]int{never}
		for _, e := range ends {
			lists = append(lists, e.Sends, e.Takes, e.Shuts)
		}
		for mark, list := range lists {
			list = list[:cap(list)]
			for i := range list {
				list[i] = -1 - mark
			}
		}
		for mark, list := range lists {
			for _, number := range list {
				if number != -1-mark {
					t.Fatal("lists share memory:", lists)
				}
			}
		}
		return all
	}
	want := ask()
	for range 50 {
		if got := ask(); got != want {
			t.Fatalf("%s, not %s", got, want)
		}
	}
}

// TestGreat: P1: programs as great as may be, with many channels, and many who are there.
func TestGreat(t *testing.T) {
	for _, x := range []struct {
		text          string
		makes, inEach int // how many are told, how many ends each of them has
		never         int
	}{
		// All that is sent can be at each of many channels.
		{"func main(){c:=make(chan int);" + strings.Repeat("c=make(chan int);", 120) + strings.Repeat("c<-1;", 200) + "}", 121, 200, 200},
		{"func main(){c:=make(chan int);" + strings.Repeat("c=make(chan int);", 120) + strings.Repeat("<-c;", 230) + "}", 121, 230, 230},
		{"func main(){c:=make(chan int);" + strings.Repeat("c=make(chan int);", 120) + strings.Repeat("<-c;", 229) + "close(c)}", 121, 230, 0},
		{"func main(){c:=make(chan int);" + strings.Repeat("c=make(chan int);", 290) + "c<-1;<-c}", 291, 2, 0},
		// Cases.
		{"func main(){c:=make(chan int,1);select{" + strings.Repeat("case <-c:", 390) + "}}", 1, 390, 390},
		{"func main(){c:=make(chan int,1);select{" + strings.Repeat("case c<-1:", 290) + "}}", 1, 290, 0},
		// From one channel to the next one.
		{"func main(){c:=make(chan int);" + strings.Repeat("make(chan int)<-<-c;", 190) + "}", 191, -1, 380},
	} {
		ends, fault := Ends(x.text)
		never, _ := Never(x.text)
		if fault.Code != api.OK || len(ends) != x.makes || len(never) != x.never {
			t.Errorf("%.60q: %v: %d sites, %d never", x.text, fault, len(ends), len(never))
		}
		for _, e := range ends {
			if many := len(e.Sends) + len(e.Takes) + len(e.Shuts); x.inEach >= 0 && many != x.inEach {
				t.Errorf("%.60q: %d at %d", x.text, many, e.Site)
			}
		}
	}
}
