package races

import (
	"fmt"
	"slices"
	"strings"
	"testing"

	"ravel/api"
	"ravel/check"
	"ravel/syntax"
)

// unmark takes the marks (@ and a sign) out of a text, and answers which ones stood ahead of which byte.
func unmark(marked string) (string, map[int]string) {
	var text strings.Builder
	marks := map[int]string{}
	for i := 0; i < len(marked); i++ {
		if marked[i] == '@' {
			i++
			marks[text.Len()] = marked[i : i+1]
			continue
		}
		text.WriteByte(marked[i])
	}
	return text.String(), marks
}

// tell asks for the pairs of a marked text: the signs of both nodes, those of a KAssign with a = behind them; sorted. Nodes that are not marked are their numbers.
func tell(t *testing.T, marked string, script []int) string {
	t.Helper()
	text, marks := unmark(marked)
	nodes, fault := syntax.Parse(text)
	pairs, second := Find(text, script)
	if fault.Code+second.Code != api.OK {
		t.Fatalf("%q: %v, %v", text, fault, second)
	}
	word := func(number int) string {
		n := nodes[number]
		mark := marks[n.At]
		if mark == "" {
			mark = fmt.Sprintf("<%d>", number)
		}
		switch n.Kind {
		case api.KAssign:
			return mark + "="
		case api.KName, api.KDot:
			return mark
		}
		return fmt.Sprintf("%s of kind %d", mark, n.Kind)
	}
	var out []string
	for i, pair := range pairs {
		if pair[0] > pair[1] || i > 0 && slices.Compare(pairs[i-1][:], pair[:]) >= 0 {
			t.Errorf("%q: %v is not rising", text, pairs)
		}
		words := []string{word(pair[0]), word(pair[1])}
		slices.Sort(words)
		out = append(out, strings.Join(words, ""))
	}
	slices.Sort(out)
	return strings.Join(out, " ")
}

// hold holds the pairs of a marked text by a script.
func hold(t *testing.T, marked, want string, script ...int) {
	t.Helper()
	if got := tell(t, marked, script); got != want {
		t.Errorf("%q by %v:\n%q, not\n%q", marked, script, got, want)
	}
}

// TestTouches: N1: names read variables, assignments write them; what is made is not touched by that.
func TestTouches(t *testing.T) {
	hold(t, "func main(){x:=0;go func(){@1x=1}();@2x=2}", "1=2=")
	hold(t, "func main(){x:=0;go func(){@1x=1}();print(@2x)}", "1=2")
	hold(t, "func main(){x:=0;go func(){print(@1x)}();@2x=2}", "12=")
	// Two who read do not race.
	hold(t, "func main(){x:=0;go func(){print(@1x)}();print(@2x)}", "")
	// Who reads and writes does both.
	hold(t, "func main(){x:=0;go func(){@1x=@2x+@3x}();@4x=@5x}", "1=4= 1=5 24= 34=")
	// What stands left is not read, wherever the value comes from.
	hold(t, "func main(){x:=0;y:=0;go func(){@1x=@2y}();@3x=@4y}", "1=3=")
	// One thread by itself is always in order.
	hold(t, "func main(){x:=0;x=x+1;func(){x=2;print(x)}();x=3}", "")
	// What a go calls, and its values, are read by who begins it.
	hold(t, "func f(n int){};func main(){x:=0;go func(){@1x=1}();go f(@2x)}", "1=2")
	hold(t, "func main(){f:=func(){};go func(){@1f=nil}();@3f=func(){};go @2f()}", "1=2 1=3=")
	// Names of functions, numbers, fields of nothing are no variables.
	hold(t, "func f(){};func main(){go func(){f();g:=f}();f()}", "")
	// Wherever names stand: conditions, channels, values, what is given back.
	hold(t, "func main(){x:=true;go func(){@1x=false}();if @2x{};for !@3x{break};y:=@4x;print(@5x==y);func()bool{return @6x}()}", "1=2 1=3 1=4 1=5 1=6")
	hold(t, "func main(){c:=make(chan int,3);go func(){print(0);@1c=nil}();@2c<-1;<-@3c;select{case @4c<-2:case <-@5c:};close(@6c);print(1)}", "1=2 1=3 1=4 1=5 1=6", 0, 0, 0, 0, 1)
	// What is not done is not touched.
	hold(t, "func main(){x:=0;go func(){@1x=1}();if false{@2x=2};if false&&x==1{};for false{x=3};return;x=4}", "")
	hold(t, "func main(){x:=true;go func(){@1x=false}();y:=false&&@2x;y=true||@3x;y=true&&@4x}", "1=4")
}

// TestMade: N1, H1: each variable that is made is one of its own.
func TestMade(t *testing.T) {
	// By KDefine, by a param, by a KCaseRecv: at the same nodes, by two threads.
	hold(t, "func f(){x:=0;x=x+1};func main(){go f();f()}", "")
	hold(t, "func f(n int){n=n+1};func main(){go f(1);f(2)}", "")
	hold(t, "type A struct{};func(a *A)m(){a=a};func main(){b:=new(A);go b.m();b.m()}", "")
	hold(t, "func f(c chan int){select{case x:=<-c:x=x+1}};func main(){c:=make(chan int,2);c<-1;c<-2;go f(c);f(c);print(1)}", "", 1, 1, 1, 1, 1)
	// Each of them can be used by a literal that another thread does.
	hold(t, "func f(n int){go func(){@1n=1}();@2n=2};func main(){f(0)}", "1=2=")
	hold(t, "type A struct{};func(a *A)m(){go func(){@1a=nil}();print(@2a==nil)};func main(){new(A).m()}", "1=2")
	hold(t, "func main(){c:=make(chan int,1);c<-1;select{case x:=<-c:go func(){@1x=2}();@2x=3}}", "1=2=")
	hold(t, "func main(){func(n int){go func(){@1n=1}();@2n=2}(0)}", "1=2=")
	// A literal uses those that were there when it was made.
	hold(t, "func main(){x:=0;go func(){@1x=1}();if true{x:=0;x=2;print(x)};@2x=3}", "1=2=")
	// In each round of a loop a new one; around it the same one.
	hold(t, "func main(){i:=0;for i<2{i=i+1;x:=0;go func(){x=1}();print(1)}}", "", 1, 1, 1, 1, 1)
	hold(t, "func main(){i:=0;x:=0;for i<2{i=i+1;go func(){@1x=1}();print(1)}}", "1=1=", 1, 1, 1, 1, 1)
	hold(t, "func main(){i:=0;for @1i<2{@2i=@3i+1;go func(){@4i=1}()}}", "14= 2=4= 34= 4=4=", 1, 1, 1, 1, 1)
}

// TestFields: N1: a KDot of a field reads that, of the thing that stands ahead; an assignment writes it.
func TestFields(t *testing.T) {
	const head = "type A struct{n int;k int;a *A;f func()};func(a *A)m()int{return a.n};"
	hold(t, head+"func main(){a:=new(A);go func(){@1a.n=1}();@2a.n=2}", "1=2=")
	hold(t, head+"func main(){a:=new(A);go func(){@1a.n=1}();print(a@2.n)}", "1=2")
	hold(t, head+"func main(){a:=new(A);go func(){print(a@1.n)}();print(a@2.n)}", "")
	// Fields of one thing are by themselves, and those of another one.
	hold(t, head+"func main(){a:=new(A);go func(){@1a.n=1}();@2a.k=2;a.a=nil}", "")
	hold(t, head+"func main(){a:=new(A);b:=new(A);go func(){@1a.n=1}();@2b.n=2}", "")
	// By whatever the same thing is reached.
	hold(t, head+"func main(){a:=new(A);b:=a;go func(){@1a.n=1}();@2b.n=2}", "1=2=")
	hold(t, head+"func f(a *A){@1a.n=1};func main(){a:=new(A);a.a=a;go f(a);@2a.a.a.n=2}", "1=2=")
	hold(t, head+"type I interface{m()int};func f(i I){@1i.(*A).n=1};func main(){a:=new(A);go f(a);b:=new(A);b.a=a;@2b.a.n=2}", "1=2=")
	hold(t, head+"func main(){a:=new(A);c:=make(chan *A,1);c<-a;go func(){a:=<-c;@1a.n=1;print(1)}();@2a.n=2;print(2);print(3)}", "1=2=", 1, 1)
	// What stands ahead of the `.` is read, also left in an assignment; the field that stands ahead of another one, too.
	hold(t, head+"func main(){a:=new(A);go func(){@1a=nil}();@2a.n=2}", "1=2")
	hold(t, head+"func main(){a:=new(A);go func(){@1a=nil}();print(@2a@3.n)}", "1=2")
	hold(t, head+"func main(){a:=new(A);a.a=new(A);go func(){@1a.a=nil}();a@2.a.n=2}", "1=2")
	hold(t, head+"func main(){a:=new(A);a.a=new(A);go func(){@1a.a=nil}();print(a@2.a@3.n)}", "1=2")
	// A method is no field; what it does, it does.
	hold(t, head+"func(a *A)o(){};func main(){a:=new(A);go func(){a.n=1}();a.o();f:=a.o}", "")
	hold(t, "type A struct{n int};func(a *A)m()int{return a@2.n};func main(){a:=new(A);go func(){@1a.n=1}();print(a.m())}", "1=2")
	hold(t, "type A struct{n int};type I interface{m()int};func(a *A)m()int{@2a.n=@3a@4.n+1;return 1};func f(i I){i.m()};func main(){a:=new(A);go f(a);f(a)}", "2=2= 2=4")
	// A field with a function is read when that is called.
	hold(t, head+"func main(){a:=new(A);a.f=func(){};go func(){@1a.f=nil}();a@2.f()}", "1=2")
	hold(t, head+"func main(){a:=new(A);a.f=func(){};go a@2.f();go func(){@1a.f=nil}()}", "")
	hold(t, head+"func main(){a:=new(A);a.f=func(){};go func(){@1a.f=nil}();@3a.f=func(){};go a@2.f()}", "1=2 1=3=")
}

// TestBegun: N2: what was done up to a KGo is ahead of what the thread does that it begins; not what comes behind it.
func TestBegun(t *testing.T) {
	hold(t, "func main(){x:=0;x=1;print(x);go func(){x=2;print(x)}();print(1);print(2)}", "", 1, 1, 1)
	hold(t, "func main(){x:=0;x=1;go func(){@1x=2;print(@2x)}();@3x=3;print(1);print(2)}", "1=3= 23=", 1, 1, 1)
	// By another thread in between; of two that one thread begins neither is ahead of the other.
	hold(t, "func main(){x:=0;x=1;go func(){go func(){@1x=2}()}();print(1);@2x=3;print(2)}", "1=2=", 1, 1, 1)
	hold(t, "func main(){x:=0;x=1;go func(){x=4;go func(){x=2}()}();print(1);print(2)}", "", 1, 1, 1)
	hold(t, "func main(){x:=0;go func(){@1x=1}();go func(){@2x=2}();print(1)}", "1=2=")
	hold(t, "func main(){x:=0;go func(){@1x=1;go func(){@2x=2}();@3x=3}();go func(){@4x=4}();print(1)}", "1=4= 2=3= 2=4= 3=4=", 1, 1, 1, 1)
	// The end of a thread is ahead of nothing.
	hold(t, "func main(){x:=0;go func(){@1x=1}();print(1);@2x=2}", "1=2=", 1, 1)
}

// TestHandedOver: N2: of a channel without room both sides are ahead of what comes behind the other one.
func TestHandedOver(t *testing.T) {
	hold(t, "func main(){x:=0;c:=make(chan int);go func(){x=1;c<-0}();<-c;x=2}", "")
	hold(t, "func main(){x:=0;c:=make(chan int);go func(){x=1;<-c}();c<-0;x=2}", "")
	// By cases, on either side.
	hold(t, "func main(){x:=0;c:=make(chan int);go func(){x=1;select{case c<-0:}}();select{case y:=<-c:x=y}}", "")
	hold(t, "func main(){x:=0;c:=make(chan int);go func(){x=1;select{case <-c:}}();select{case c<-0:x=2}}", "")
	hold(t, "func main(){x:=0;c:=make(chan int);d:=make(chan int,1);go func(){@1x=1;select{case <-c:case d<-1:}}();select{case c<-0:case <-d:};@2x=2}", "", 0, 0)
	// Whoever is picked, the one that sends or the one that receives.
	for script := range 2 {
		hold(t, "func main(){x:=0;y:=0;c:=make(chan int);go func(){x=1;c<-0;y=1;c<-0}();y=2;<-c;x=2;<-c;y=3}", "", script, script)
	}
	// Not what comes behind, on either side.
	hold(t, "func main(){x:=0;c:=make(chan int);go func(){c<-0;@1x=1}();<-c;@2x=2}", "1=2=")
	hold(t, "func main(){x:=0;c:=make(chan int);go func(){<-c;@1x=1}();c<-0;@2x=2}", "1=2=")
	// What is received is written behind it; the value of a send is done ahead of it.
	hold(t, "func main(){x:=0;c:=make(chan int);go func(){c<-x+1}();x=<-c}", "")
	hold(t, "func main(){x:=0;c:=make(chan int);go func(){c<-1;print(@1x)}();@2x=<-c;print(2);print(3)}", "12=", 1, 1, 1)
	hold(t, "type A struct{n int};func main(){a:=new(A);c:=make(chan int);go func(){a.n=1;c<-a.n;print(1)}();a.n=<-c+1}", "")
	// With others it has nothing to do.
	hold(t, "func main(){x:=0;c:=make(chan int);d:=make(chan int);go func(){@1x=1;c<-0}();go func(){d<-0}();<-d;@2x=2;<-c}", "1=2=")
	hold(t, "func main(){x:=0;c:=make(chan int);go func(){@1x=1;c<-0}();go func(){c<-0}();<-c;@2x=2;<-c;x=3}", "1=2=", 2, 0)
	hold(t, "func main(){x:=0;c:=make(chan int);go func(){@1x=1;c<-0}();go func(){c<-0}();<-c;@2x=2;<-c;x=3}", "", 0, 0)
	// From one to another one, to a third one.
	hold(t, "func main(){x:=0;c:=make(chan int);d:=make(chan int);go func(){x=1;c<-0}();go func(){<-c;d<-0}();<-d;x=2}", "")
	hold(t, "func main(){x:=0;c:=make(chan int);d:=make(chan int);go func(){x=1;<-c}();go func(){c<-0;<-d}();d<-1;x=2}", "")
	// Who waits for both is behind both, which race.
	hold(t, "func main(){x:=0;c:=make(chan int);go func(){@1x=1;c<-0}();go func(){@2x=2;c<-0}();<-c;<-c;x=3}", "1=2=")
}

// TestRoom: N2: of a channel with room what was done up to a send is ahead of what comes behind the receive that has its value; up to the n-th receive, of what comes behind the (n + room)-th send.
func TestRoom(t *testing.T) {
	hold(t, "func main(){x:=0;c:=make(chan int,1);go func(){x=1;c<-0}();<-c;x=2}", "")
	hold(t, "func main(){x:=0;c:=make(chan int,1);go func(){x=1;select{case c<-0:default:}}();select{case <-c:x=2}}", "", 1)
	hold(t, "func main(){x:=0;c:=make(chan int,1);go func(){@1x=1;<-c}();c<-0;@2x=2}", "1=2=")
	hold(t, "func main(){x:=0;c:=make(chan int,1);go func(){c<-0;@1x=1;print(1)}();<-c;@2x=2}", "1=2=")
	// Each receive has the value of one send: what was done up to a later one is not ahead.
	const three = "func main(){x:=0;y:=0;z:=0;c:=make(chan int,3);go func(){x=1;c<-0;@1y=1;c<-0;@2z=1;c<-0}();print(1);print(2);<-c;x=2;@3y=2;@4z=2;<-c;y=3;@5z=3;<-c;z=4}"
	hold(t, three, "1=3= 2=4= 2=5=", 1, 1, 1, 0, 0)
	// Whoever sends.
	hold(t, "func main(){x:=0;c:=make(chan int,2);go func(){@1x=1;c<-0}();go func(){c<-0}();<-c;@2x=2;<-c;x=3}", "1=2=", 0, 1, 0, 0, 0)
	hold(t, "func main(){x:=0;c:=make(chan int,2);go func(){@1x=1;c<-0}();go func(){c<-0}();<-c;@2x=2;<-c;x=3}", "", 0, 0)
	// The n-th receive, for each room.
	hold(t, "func main(){x:=0;c:=make(chan int,1);go func(){x=1;<-c}();c<-0;c<-1;x=2}", "")
	hold(t, "func main(){x:=0;c:=make(chan int,2);go func(){@1x=1;<-c}();c<-0;c<-1;@2x=2;c<-2;x=3}", "1=2=")
	hold(t, "func main(){x:=0;y:=0;c:=make(chan int,2);go func(){@1x=1;<-c;@2y=1;<-c;print(1)}();c<-0;c<-1;@3x=2;c<-2;x=3;@4y=3;c<-3;y=4;x=4}", "1=3= 2=4=")
	hold(t, "func main(){x:=0;c:=make(chan int,8);go func(){@1x=1;<-c}();i:=0;for i<8{c<-i;@2x=2;i=i+1};c<-8;x=3}", "1=2=")
	// Whoever receives: the second receive is that of another one.
	hold(t, "func main(){x:=0;c:=make(chan int,1);go func(){@1x=1;<-c}();go func(){@2x=2;<-c}();c<-0;c<-1;@3x=3;c<-2;x=4}", "1=2= 2=3=")
	hold(t, "func main(){x:=0;c:=make(chan int,1);go func(){@1x=1;<-c}();go func(){@2x=2;<-c}();c<-0;c<-1;@3x=3;c<-2;x=4}", "1=2= 1=3=", 1, 0, 0, 0)
	// A channel with room for one, by which one at a time goes on: who takes what is there is behind who laid it there.
	const lock = "func main(){x:=0;c:=make(chan int,1);d:=make(chan int);c<-0;go func(){<-c;x=x+1;c<-0;d<-0}();go func(){<-c;x=x+1;c<-0;d<-0}();<-d;<-d;print(x)}"
	for script := range 32 {
		hold(t, lock, "", script&1, script>>1&1, script>>2&1, script>>3&1, script>>4)
	}
	// The other way round: who lays something there is behind who took what was there.
	const other = "func main(){x:=0;c:=make(chan int,1);d:=make(chan int);go func(){c<-0;x=x+1;<-c;d<-0}();go func(){c<-0;x=x+1;<-c;d<-0}();<-d;<-d;print(x)}"
	for script := range 32 {
		hold(t, other, "", script&1, script>>1&1, script>>2&1, script>>3&1, script>>4)
	}
}

// TestUpTo: N2: what is just ahead of what comes behind a send or a receive was not done up to it: it is not handed on by it.
func TestUpTo(t *testing.T) {
	// Thread 1 writes, and takes the first; main sends the second, behind which it knows of thread 1; thread 2 takes the second, and knows what was done up to that send.
	hold(t, "func main(){x:=0;c:=make(chan int,1);go func(){@1x=1;<-c}();c<-0;go func(){<-c;@2x=2;print(1)}();c<-1;@3x=3}", "1=2= 2=3=", 1, 0, 0, 2)
	// Thread 1 writes, and sends the first; main takes it, and knows of thread 1 behind that; thread 2 sends the second, and knows what main did up to its receive.
	hold(t, "func main(){x:=0;c:=make(chan int,1);go func(){@1x=1;c<-0}();go func(){c<-1;@2x=2;print(1)}();<-c;@3x=3;print(2);print(3)}", "1=2= 2=3=", 0, 0, 0, 2)
}

// TestShut: N2: what was done up to a close is ahead of what comes behind a receive that finds it closed and empty.
func TestShut(t *testing.T) {
	hold(t, "func main(){x:=0;c:=make(chan int);go func(){x=1;close(c)}();<-c;x=2}", "")
	hold(t, "func main(){x:=0;c:=make(chan int,2);go func(){x=1;close(c)}();<-c;x=2}", "")
	hold(t, "func main(){x:=0;c:=make(chan int);go func(){x=1;close(c)}();select{case <-c:x=2}}", "")
	// All who find it so.
	hold(t, "func main(){x:=0;c:=make(chan int);d:=make(chan int,1);go func(){<-c;print(x);d<-1}();go func(){<-c;print(x);<-c;print(x)}();x=1;close(c);<-d}", "", 0, 0, 0, 1, 1, 1, 1)
	// Not what comes behind it, nor the other way round.
	hold(t, "func main(){x:=0;c:=make(chan int);go func(){close(c);@1x=1}();<-c;@2x=2}", "1=2=")
	hold(t, "func main(){x:=0;c:=make(chan int);go func(){@1x=1;<-c;print(1)}();close(c);@2x=2}", "1=2=", 0, 1)
	// Who finds something in it is behind just that send.
	const full = "func main(){x:=0;y:=0;c:=make(chan int,1);go func(){x=1;c<-7;@1y=1;close(c)}();print(1);print(2);<-c;x=2;@2y=2;<-c;y=3}"
	hold(t, full, "1=2=", 1, 1, 1, 0, 0)
	hold(t, full, "1=2=", 1, 1, 0, 0, 0)
	// Who sent what it finds behind a close of another one.
	hold(t, "func main(){x:=0;c:=make(chan int,1);c<-1;go func(){@1x=1;close(c)}();print(1);<-c;@2x=2;<-c;x=3}", "1=2=", 1, 0, 0)
	// Of another channel.
	hold(t, "func main(){x:=0;c:=make(chan int);d:=make(chan int);go func(){@1x=1;close(c)}();close(d);<-d;@2x=2;<-c;x=3}", "1=2=")
}

// TestPrints: N2: printing, and the order in which the script lets threads go on, puts nothing in order.
func TestPrints(t *testing.T) {
	for script := range 16 {
		hold(t, "func main(){x:=0;go func(){print(1);@1x=1;print(2)}();print(3);@2x=2;print(4);print(5)}", "1=2=", script&1, 1, script>>1&1, script>>2&1, script>>3)
	}
	// A select that goes on by its default learns nothing.
	hold(t, "func main(){x:=0;c:=make(chan int);d:=make(chan int);go func(){@1x=1;select{case c<-1:default:};@2x=2}();select{case <-d:default:};@3x=3}", "1=3=")
}

// TestRuns: N3: just what is done in this run, up to its end, however that comes.
func TestRuns(t *testing.T) {
	const text = "func main(){x:=0;go func(){@1x=1;print(1);@2x=2}();@3x=3;print(2);@4x=4}"
	hold(t, text, "1=3= 1=4=")
	hold(t, text, "1=3= 1=4= 2=3= 2=4=", 1)
	const picked = "func main(){x:=0;c:=make(chan int,1);go func(){print(1);@1x=1}();select{case c<-1:@2x=2;case c<-2:};print(3);print(4)}"
	hold(t, picked, "1=2=", 0, 0, 1)
	hold(t, picked, "", 0, 1, 1)
	hold(t, picked, "1=2=", 1, 0, 0)
	// The run falls: what would come behind is not done. What stands left is reached behind the value.
	hold(t, "type A struct{a *A};func main(){a:=new(A);b:=a.a;go func(){@1b=b}();print(1);print(@2b@3.a==nil);b=a}", "1=2")
	hold(t, "type A struct{a *A};func main(){a:=new(A);go func(){@1a=a}();print(1);@2a.a=nil;@3a.a.a=@4a;a.a=nil}", "1=2 1=3 1=4")
	hold(t, "type A struct{n int};func f()*A{return nil};func main(){x:=0;go func(){@1x=1}();print(1);f().n=@2x;x=3}", "1=2")
	hold(t, "func main(){x:=0;go func(){@1x=1}();@2x=1/0}", "")
	hold(t, "func main(){x:=0;go func(){@1x=1;panic(1)}();@2x=2;print(1);x=3}", "1=2=")
	hold(t, "func main(){x:=0;c:=make(chan int);close(c);go func(){@1x=1}();@2x=2;c<-@3x;x=4}", "1=2= 1=3")
	// It gets stuck, or comes to its bounds.
	hold(t, "func main(){x:=0;c:=make(chan int);go func(){@1x=1}();@2x=2;<-c}", "1=2=")
	hold(t, "func main(){x:=0;go func(){for true{@1x=1}}();@2x=2;print(1);@3x=3}", "1=2=")
	hold(t, "func main(){x:=0;i:=0;for true{go func(){@1x=1}();@2x=2}}", "1=1= 1=2=")
}

// TestPairs: N3: two threads can touch the same by the same node; each pair stands once, however often it is so.
func TestPairs(t *testing.T) {
	hold(t, "func main(){x:=0;f:=func(){@1x=1};go f();f()}", "1=1=")
	hold(t, "func main(){x:=0;f:=func(){print(@1x)};go f();f()}", "")
	hold(t, "func main(){x:=0;f:=func(){@1x=@2x+1};go f();f();go f();go f();f()}", "1=1= 1=2")
	hold(t, "func main(){x:=0;go func(){i:=0;for i<9{@1x=i;i=i+1}}();i:=0;for i<9{@2x=i;i=i+1}}", "1=2=")
	// By what they touch of several, the same pair.
	hold(t, "type A struct{n int};func f(a *A){@1a.n=1};func main(){a:=new(A);b:=new(A);go func(){f(a);f(b)}();f(b);f(a)}", "1=1=")
	// All pairs of those that are not in order.
	hold(t, "func main(){x:=0;go func(){@1x=1;@2x=2;print(@3x)}();@4x=4;@5x=5;print(@6x)}", "1=4= 1=5= 1=6 2=4= 2=5= 2=6 34= 35=")
}

// TestExample: the numbers of nodes.
func TestExample(t *testing.T) {
	// nodes: 0 sig, 1 0, 2 x:=0, 3 sig, 4 x, 5 1, 6 x=1, 7 block, 8 lit, 9 call, 10 go, 11 x, 12 2, 13 x=2, 14 x, 15 print, 16 block, 17 main, 18 program
	pairs, fault := Find("func main(){x:=0;go func(){x=1}();x=2;print(x)}", nil)
	if got := fmt.Sprint(pairs, fault); got != "[[6 13] [6 14]] {0 0}" {
		t.Error(got)
	}
	// The one that is lesser stands first, whoever touches first.
	pairs, fault = Find("func main(){x:=0;f:=func(){print(x)};go func(){x=1;print(1);x=2}();f();x=3}", []int{1, 1, 1})
	if got := fmt.Sprint(pairs, fault); got != "[[4 12] [4 17] [12 27] [17 27]] {0 0}" {
		t.Error(got)
	}
}

// TestFaults: Check's fault, and nothing else.
func TestFaults(t *testing.T) {
	for _, x := range []struct {
		text string
		code api.Errno
	}{
		{"", api.ErrMain},
		{"func f(){x:=0;go func(){x=1}();x=2}", api.ErrMain},
		{"func main(n int){go func(){n=1}();n=2}", api.ErrMain},
		{strings.Repeat(" ", api.MaxText+1), api.ErrSize},
		{"func main(){x:=\xff}", api.ErrRune},
		{"func main(){x:=0;go func(){x=1}();x=2", api.ErrSyntax},
		{"func main(){x:=" + strings.Repeat("(", 40) + "1" + strings.Repeat(")", 40) + "}", api.ErrDeep},
		{"func main(){" + strings.Repeat("main();", 600) + "}", api.ErrFull},
		{"func main(){go func(){x=1}();x=2}", api.ErrName},
		{"func main(){x:=0;x:=1;go func(){x=1}();x=2}", api.ErrTwice},
		{"func main(){x:=0;go func(){x=1}();x=true}", api.ErrType},
		{"func f(n int){};func main(){f()}", api.ErrCount},
		{"func main(){c:=make(chan int,9);go func(){c=nil}();c=nil}", api.ErrRange},
	} {
		_, want := check.Check(x.text)
		if want.Code != x.code {
			t.Fatalf("%q: %v", x.text, want)
		}
		for _, script := range [][]int{nil, {1, 2, 3}} {
			if pairs, fault := Find(x.text, script); fault != want || len(pairs) > 0 {
				t.Errorf("%q: %v, not %v; %v", x.text, fault, want, pairs)
			}
		}
	}
}

// TestNewMemory: P3: the script is not changed, what lies behind its length not read; the same is answered again, whatever is done to an answer.
func TestNewMemory(t *testing.T) {
	text, _ := unmark("type A struct{n int};func main(){x:=0;a:=new(A);c:=make(chan int,1);f:=func(){x=x+1;a.n=x;print(x);a.n=2};go f();go f();c<-1;go f();f();<-c;f()}")
	whole := []int{2, -1, 1, 3, 1, 7, 7, 7, 7, 7, 7}
	ask := func() string {
		pairs, fault := Find(text, whole[:5])
		all := fmt.Sprint(pairs, fault)
		pairs = pairs[:cap(pairs)]
		for i := range pairs {
			pairs[i] = [2]int{-9, -9}
		}
		return all
	}
	want := ask()
	if pairs, fault := Find(text, []int{2, -1, 1, 3, 1}); fmt.Sprint(pairs, fault) != want || len(pairs) == 0 {
		t.Errorf("%v, not %s", pairs, want)
	}
	for range 50 {
		if got := ask(); got != want {
			t.Fatalf("%s, not %s", got, want)
		}
	}
	if fmt.Sprint(whole) != "[2 -1 1 3 1 7 7 7 7 7 7]" {
		t.Error(whole)
	}
}

// TestGreat: P1: runs as long as may be, in which much is touched by many threads.
func TestGreat(t *testing.T) {
	// Each of eleven threads goes on for some rounds, and reads much in each.
	sum := "x" + strings.Repeat("+x", 40)
	threads := "func main(){x:=0;i:=0;f:=func(n int){for n>0{x=" + sum + ";n=n-1}};for i<11{go f(3);i=i+1};f(3)}"
	if pairs, fault := Find(threads, nil); len(pairs) != 42 || fault.Code != api.OK {
		t.Error(len(pairs), fault)
	}
	// Each of many nodes with each other one.
	lines := strings.Repeat("x=1;", 180)
	both := "func main(){x:=0;go func(){" + lines + "}();" + lines + "}"
	if pairs, fault := Find(both, nil); len(pairs) != 180*180 || fault.Code != api.OK {
		t.Error(len(pairs), fault)
	}
	// Much is handed over: all of it is in order.
	for _, room := range []string{"", ",1", ",8"} {
		text := "func main(){x:=0;c:=make(chan int" + room + ");d:=make(chan int);go func(){for true{x=<-c+x;d<-x}}();for true{x=x+1;c<-x;<-d}}"
		if pairs, fault := Find(text, nil); len(pairs) != 0 || fault.Code != api.OK {
			t.Error(room, pairs, fault)
		}
	}
	// Many channels, many variables.
	made := "func main(){for true{c:=make(chan int,1);x:=0;go func(){x=1;c<-1}();<-c;x=2}}"
	if pairs, fault := Find(made, nil); len(pairs) != 0 || fault.Code != api.OK {
		t.Error(pairs, fault)
	}
}
