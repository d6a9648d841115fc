package run

import (
	"fmt"
	"math"
	"reflect"
	"runtime"
	"strconv"
	"strings"
	"sync"
	"testing"
	"time"

	"ravel/api"
	"ravel/check"
)

// two has two threads that send, and one that receives once.
const two = "func main(){c:=make(chan int);@4go func(){@1c<-1}();@5go func(){@2c<-2}();@6print(@3<-c)}"

// TestPicks: E6: numbers of the script are taken where there are at least two, modulo how many, from 0 on.
func TestPicks(t *testing.T) {
	begun := "0 go@4 1; 0 go@5 2; "
	by0or1 := begun + "1 send@1 1; 0 recv@3 1; 0 print@6 1; 0 end; done"
	by2 := begun + "2 send@2 2; 0 recv@3 2; 0 print@6 2; 0 end; done"
	for _, x := range []struct {
		first int
		want  string
	}{{0, by0or1}, {1, by0or1}, {2, by2}, {3, by0or1}, {5, by2}, {-1, by2}, {-2, by0or1}, {-3, by0or1}, {-4, by2}, {math.MaxInt, by0or1}, {math.MinInt, by0or1}, {math.MinInt + 1, by2}} {
		hold(t, two, []int{x.first}, x.want)
	}
	hold(t, two, nil, by0or1)
	hold(t, two, []int{}, by0or1)
	hold(t, two, []int{1, 1, 1, 1, 1, 1, 1}, begun+"1 send@1 1; 0 recv@3 1; 1 end; 0 print@6 1; 0 end; done")
	hold(t, two, []int{2, 0, 1, 7, 7}, begun+"2 send@2 2; 0 recv@3 2; 0 print@6 2; 2 end; 0 end; done")
	// Where there is just one, none is taken: each number is of the next place where there are two.
	hold(t, "func main(){print(1);print(2);go func(){print(3)}();print(4);print(5)}", []int{1, 0}, "0 print 1; 0 print 2; 0 go 1; 1 print 3; 0 print 4; 0 print 5; 0 end; done")
	hold(t, "func main(){print(1);print(2);go func(){print(3)}();print(4);print(5)}", []int{0, 1, 1}, "0 print 1; 0 print 2; 0 go 1; 0 print 4; 1 print 3; 1 end; 0 print 5; 0 end; done")
	// First the thread, then the case.
	cases := "func main(){c:=make(chan int,1);d:=make(chan int,1);go func(){print(1)}();select{@1case c<-1:@2case d<-2:@3case c<-3:}}"
	hold(t, cases, []int{0, 1}, "0 go 1; 0 send@2 2; 0 end; done")
	hold(t, cases, []int{0, -1}, "0 go 1; 0 send@3 3; 0 end; done")
	hold(t, cases, []int{0, 3, 1}, "0 go 1; 0 send@1 1; 1 print 1; 0 end; done")
	hold(t, cases, []int{1, 1, 2}, "0 go 1; 1 print 1; 1 end; 0 send@3 3; 0 end; done")
	hold(t, "func main(){c:=make(chan int,1);select{case <-c:@1case c<-1:}}", []int{1, 1}, "0 send@1 1; 0 end; done")
}

// TestWhatWasPicked: where there are at least two, the place and how many there are, also behind the script's end; the trace is that of Run.
func TestWhatWasPicked(t *testing.T) {
	text, _ := unmark(two)
	read, _ := check.Read(text)
	for _, x := range []struct {
		script []int
		want   string
	}{
		{nil, "[{0 3} {0 2} {0 2}]"},
		{[]int{1}, "[{1 3} {0 2} {0 2}]"},
		{[]int{-1, 4, 7, 5}, "[{2 3} {0 2} {1 2}]"},
		{[]int{5, 3, 7}, "[{2 3} {1 2}]"},
	} {
		trace, picks := Picks(read, x.script)
		if got := fmt.Sprint(picks); got != x.want {
			t.Errorf("%v: %s, not %s", x.script, got, x.want)
		}
		if want, _ := Run(text, x.script); !reflect.DeepEqual(trace, want) {
			t.Errorf("%v: %v, not %v", x.script, trace, want)
		}
	}
	read, _ = check.Read("func main(){print(1)}")
	if _, picks := Picks(read, []int{1, 2}); len(picks) > 0 {
		t.Error(picks)
	}
}

// TestGoOn: E5: who is picked goes on first, then who is met, or begun.
func TestGoOn(t *testing.T) {
	meets := "func main(){x:=0;c:=make(chan int);d:=make(chan int);go func(){@1c<-5;x=x*10+1;d<-6}();@2<-c;x=x*10+2;<-d;print(x)}"
	hold(t, meets, nil, "0 go 1; 1 send@1 5; 0 recv@2 5; 1 send 6; 0 recv 6; 0 print 21; 0 end; done")
	hold(t, meets, []int{1}, "0 go 1; 1 send@1 5; 0 recv@2 5; 1 send 6; 0 recv 6; 0 print 12; 0 end; done")
	sends := "func main(){x:=0;c:=make(chan int);d:=make(chan int);go func(){@1<-c;x=x*10+1;d<-6}();@2c<-5;x=x*10+2;<-d;print(x)}"
	hold(t, sends, nil, "0 go 1; 0 send@2 5; 1 recv@1 5; 1 send 6; 0 recv 6; 0 print 21; 0 end; done")
	hold(t, sends, []int{1}, "0 go 1; 0 send@2 5; 1 recv@1 5; 1 send 6; 0 recv 6; 0 print 12; 0 end; done")
	hold(t, "func main(){x:=0;d:=make(chan int);go func(){x=x*10+1;d<-1}();x=x*10+2;<-d;print(x)}", nil, "0 go 1; 1 send 1; 0 recv 1; 0 print 21; 0 end; done")
	// When the first one ends the run, the second one does not go on.
	hold(t, "func main(){x:=0;c:=make(chan int);go func(){c<-1;x=1/x}();<-c;x=1@1/x}", nil, "0 go 1; 1 send 1; 0 recv 1; fell KBinary@1")
	hold(t, "func main(){x:=0;c:=make(chan int);go func(){c<-1;x=1@1/x}();<-c;x=1/x}", []int{1}, "0 go 1; 1 send 1; 0 recv 1; fell KBinary@1")
	// Expressions are done ahead of the mark, though it is done later.
	hold(t, "func main(){x:=1;go func(){x=2}();print(x);print(x)}", nil, "0 go 1; 0 print 1; 0 print 2; 0 end; done")
	hold(t, "func main(){x:=1;c:=make(chan int,1);go func(){x=2}();c<-x;print(<-c)}", nil, "0 go 1; 0 send 1; 0 recv 1; 0 print 1; 0 end; done")
	hold(t, "func main(){x:=1;c:=make(chan int);d:=make(chan int);go func(){c=d;x=7;d<-x}();select{case y:=<-c:print(y);case z:=<-d:print(-z)}}", nil, "0 go 1; 1 send 7; 0 recv 7; 0 print -7; 0 end; done")
	hold(t, "func f(n int){print(n)};func main(){x:=1;go f(x);x=2;c:=make(chan int);<-c}", nil, "0 go 1; 1 print 1; 1 end; stuck")
}

// TestAble: E5: who can send, and who can receive.
func TestAble(t *testing.T) {
	for _, x := range []struct{ stmts, want string }{
		{"c:=make(chan int);c<-1", "stuck"},
		{"c:=make(chan int);<-c", "stuck"},
		{"c:=make(chan int,0);c<-1", "stuck"},
		{"c:=make(chan int,1);<-c", "stuck"},
		{"c:=make(chan int,1);c<-1;c<-2", "0 send 1; stuck"},
		{"c:=make(chan int,2);c<-1;c<-2;print(<-c);c<-3;print(<-c);print(<-c)", "0 send 1; 0 send 2; 0 recv 1; 0 print 1; 0 send 3; 0 recv 2; 0 print 2; 0 recv 3; 0 print 3; 0 end; done"},
		{"c:=make(chan int,8);i:=0;for true{c<-i;i=i+1}", "0 send 0; 0 send 1; 0 send 2; 0 send 3; 0 send 4; 0 send 5; 0 send 6; 0 send 7; stuck"},
		{"c:=make(chan int);c=nil;c<-1", "stuck"},
		{"c:=make(chan int);c=nil;<-c", "stuck"},
		{"c:=make(chan int);c=nil;select{case <-c:case c<-1:}", "stuck"},
		{"c:=make(chan int);c=nil;select{case <-c:case c<-1:default:print(1)}", "0 print 1; 0 end; done"},
		{"select{}", "stuck"},
		{"select{default:print(1)}", "0 print 1; 0 end; done"},
		// A thread does not meet itself.
		{"c:=make(chan int);select{case c<-1:case <-c:}", "stuck"},
		{"c:=make(chan int);select{case c<-1:case <-c:default:print(1)}", "0 print 1; 0 end; done"},
		// Two threads at nil do not meet.
		{"c:=make(chan int);c=nil;go func(){c<-1}();<-c", "0 go 1; stuck"},
		// What is else is done just if no case can be.
		{"c:=make(chan int,1);select{default:print(1);case <-c:print(2)}", "0 print 1; 0 end; done"},
		{"c:=make(chan int,1);select{default:print(1);@1case c<-3:print(2)}", "0 send@1 3; 0 print 2; 0 end; done"},
		// Closed ones.
		{"c:=make(chan int,2);c<-4;c<-5;close(c);print(<-c);select{@1case x:=<-c:print(x)};print(<-c)", "0 send 4; 0 send 5; 0 close; 0 recv 4; 0 print 4; 0 recv@1 5; 0 print 5; 0 recv 0; 0 print 0; 0 end; done"},
		{"c:=make(chan bool);close(c);select{@1case x:=<-c:print(!x);default:print(9)}", "0 close; 0 recv@1 0; 0 print 1; 0 end; done"},
		{"c:=make(chan int);go func(){print(@1<-c);print(@2<-c)}();@3close(c);<-make(chan int)", "0 go 1; 0 close@3; 1 recv@1 0; 1 print 0; 1 recv@2 0; 1 print 0; 1 end; stuck"},
		// Who is alone at a channel waits; others go on.
		{"c:=make(chan int);go func(){print(1);print(2)}();c<-1", "0 go 1; 1 print 1; 1 print 2; 1 end; stuck"},
		{"c:=make(chan int,1);go func(){c<-1;c<-2;c<-3}();print(<-c)", "0 go 1; 1 send 1; 0 recv 1; 0 print 1; 0 end; done"},
	} {
		hold(t, "func main(){"+x.stmts+"}", nil, x.want)
	}
	// The closed channel's receiver does not meet who still stands there to send; nor does who sends meet who receives.
	shut := "func main(){c:=make(chan int);go func(){@1c<-1}();close(c);print(@2<-c)}"
	hold(t, shut, nil, "0 go 1; 0 close; 0 recv@2 0; 0 print 0; 0 end; done")
	hold(t, shut, []int{1}, "0 go 1; 0 close; fell KSend@1")
	hold(t, "func main(){c:=make(chan int);go func(){<-c;print(1)}();close(c);select{@1case c<-1:}}", nil, "0 go 1; 0 close; fell KCaseSend@1")
	hold(t, "func main(){c:=make(chan int);go func(){<-c;print(1)}();close(c);select{@1case c<-1:}}", []int{1, 1, 1}, "0 go 1; 0 close; 1 recv 0; 1 print 1; 1 end; fell KCaseSend@1")
}

// TestMet: E5: the least thread is met, of a select the first case that fits, also of one with an else.
func TestMet(t *testing.T) {
	takers := "func main(){c:=make(chan int);go func(){@1<-c}();go func(){@2<-c}();c<-1;c<-2}"
	hold(t, takers, nil, "0 go 1; 0 go 2; 0 send 1; 1 recv@1 1; 0 send 2; 2 recv@2 2; 0 end; done")
	hold(t, takers, []int{2}, "0 go 1; 0 go 2; 0 send 1; 2 recv@2 1; 0 send 2; 1 recv@1 2; 0 end; done")
	chosen := "func main(){c:=make(chan int);d:=make(chan int);go func(){select{case d<-1:@4case <-d:@1case x:=<-c:print(x);@2case y:=<-c:print(-y)}}();@3c<-5;<-d}"
	hold(t, chosen, nil, "0 go 1; 0 send@3 5; 1 recv@1 5; 1 print 5; 1 end; stuck")
	hold(t, chosen, []int{1, 1}, "0 go 1; 0 send@3 5; 1 recv@2 5; 1 print -5; 1 end; stuck")
	hold(t, "func main(){c:=make(chan int);go func(){select{default:print(9);@1case x:=<-c:print(x)}}();@2c<-5;<-c}", nil, "0 go 1; 0 send@2 5; 1 recv@1 5; 1 print 5; 1 end; stuck")
	hold(t, "func main(){c:=make(chan int);go func(){select{default:print(9);@1case c<-6:print(8)}}();print(@2<-c)}", []int{1, 1}, "0 go 1; 1 send@1 6; 0 recv@2 6; 1 print 8; 0 print 6; 0 end; done")
	// Two selects meet.
	both := "func main(){c:=make(chan int);d:=make(chan int);go func(){select{@1case c<-1:@2case x:=<-d:print(x)}}();select{@3case d<-2:@4case y:=<-c:print(y)};<-c}"
	hold(t, both, nil, "0 go 1; 0 send@3 2; 1 recv@2 2; 1 print 2; 1 end; stuck")
	hold(t, both, []int{0, 1}, "0 go 1; 1 send@1 1; 0 recv@4 1; 0 print 1; 1 end; stuck")
	hold(t, both, []int{1, 0}, "0 go 1; 1 send@1 1; 0 recv@4 1; 0 print 1; 1 end; stuck")
	hold(t, both, []int{1, 1}, "0 go 1; 0 send@3 2; 1 recv@2 2; 1 print 2; 1 end; stuck")
	// At a channel with room nobody is met.
	hold(t, "func main(){c:=make(chan int,1);go func(){@1c<-1;print(2)}();print(@2<-c)}", []int{1, 1}, "0 go 1; 1 send@1 1; 1 print 2; 1 end; 0 recv@2 1; 0 print 1; 0 end; done")
	// Who is at its end is met by nobody, though it stood at the channel.
	hold(t, "func main(){c:=make(chan int);go func(){c<-1}();<-c;<-c}", nil, "0 go 1; 1 send 1; 0 recv 1; 1 end; stuck")
}

// TestNumbersOfEvents: E7.
func TestNumbersOfEvents(t *testing.T) {
	hold(t, ab+"func main(){c:=make(chan bool,1);c<-true;print(<-c);c<-false;print(<-c)}", nil, "0 send 1; 0 recv 1; 0 print 1; 0 send 0; 0 recv 0; 0 print 0; 0 end; done")
	hold(t, ab+"func main(){c:=make(chan *A,1);c<-new(A);x:=<-c;c<-nil;x=<-c}", nil, "0 send 0; 0 recv 0; 0 send 0; 0 recv 0; 0 end; done")
	hold(t, "func main(){c:=make(chan func() int,1);c<-func() int {return 4};print((<-c)());d:=make(chan chan int,1);d<-make(chan int);<-d}", nil, "0 send 0; 0 recv 0; 0 print 4; 0 send 0; 0 recv 0; 0 end; done")
	hold(t, ab+"func main(){c:=make(chan I);go func(){c<-new(B)}();x:=(<-c).(*B);print(-x.n-3)}", nil, "0 go 1; 1 send 0; 0 recv 0; 0 print -3; 0 end; done")
	hold(t, "func main(){go func(){go func(){print(1)}();print(2)}();<-make(chan int)}", nil, "0 go 1; 1 go 2; 1 print 2; 1 end; 2 print 1; 2 end; stuck")
	hold(t, "func main(){}", []int{1, 2, 3}, "0 end; done")
}

// TestThreads: E5: more threads than may be begun, whether or not the others are at their end.
func TestThreads(t *testing.T) {
	begins := func(many int) string {
		return "func main(){i:=0;for i<" + strconv.Itoa(many) + "{i=i+1;@1go func(){}()};print(i)}"
	}
	var first, ended strings.Builder
	for number := 1; number < api.MaxThreads; number++ {
		first.WriteString("0 go@1 " + strconv.Itoa(number) + "; ")
		ended.WriteString("0 go@1 " + strconv.Itoa(number) + "; " + strconv.Itoa(number) + " end; ")
	}
	ones := []int{1, 1, 1, 1, 1, 1, 1, 1, 1, 1, 1, 1}
	hold(t, begins(api.MaxThreads-1), nil, first.String()+"0 print 11; 0 end; done")
	hold(t, begins(api.MaxThreads), nil, first.String()+"out KGo@1")
	hold(t, begins(api.MaxThreads-1), ones, ended.String()+"0 print 11; 0 end; done")
	hold(t, begins(api.MaxThreads), ones, ended.String()+"out KGo@1")
}

// TestAnswersHangOnArguments: P3: the same comes each time, also when runs go on beside each other; what came out is nobody's any more.
func TestAnswersHangOnArguments(t *testing.T) {
	text, _ := unmark(two)
	want, _ := Run(text, []int{2, 1})
	var all sync.WaitGroup
	for range 8 {
		all.Go(func() {
			for range 50 {
				got, _ := Run(text, []int{2, 1})
				if !reflect.DeepEqual(got, want) {
					t.Error(got, want)
				}
				clear(got.Events)
			}
		})
	}
	all.Wait()
}

// TestNobodyIsLeft: all threads are gone when the call answers, however the run ended.
func TestNobodyIsLeft(t *testing.T) {
	ahead := runtime.NumGoroutine()
	wait := "c:=make(chan int);i:=0;for i<5{go func(){<-c}();i=i+1};"
	for _, stmts := range []string{"", "panic(1)", "for true{}", "c<-1;c=nil;<-c", "close(c);<-c", "i=0;for true{go func(){<-c}()}"} {
		for range 20 {
			Run("func main(){"+wait+stmts+"}", []int{3, 1, 4, 1, 5})
		}
	}
	// A goroutine that has told that it is done may not be gone yet.
	for range 100 {
		if runtime.NumGoroutine() <= ahead {
			return
		}
		time.Sleep(10 * time.Millisecond)
	}
	t.Error(runtime.NumGoroutine()-ahead, "goroutines are left")
}
