package tries

import (
	"fmt"
	"math"
	"reflect"
	"runtime"
	"slices"
	"strconv"
	"strings"
	"sync"
	"testing"
	"time"

	"ravel/api"
	"ravel/check"
	"ravel/syntax"
)

// unmark takes the marks (@ and a digit) out of a text, and answers where they stood.
func unmark(marked string) (string, map[int]string) {
	var text strings.Builder
	places := map[int]string{}
	for i := 0; i < len(marked); i++ {
		if marked[i] == '@' {
			places[text.Len()] = marked[i : i+2]
			i++
			continue
		}
		text.WriteByte(marked[i])
	}
	return text.String(), places
}

func numbers(list []int) string { return strings.Trim(fmt.Sprint(list), "[]") }

// tell tells an outcome: how it ended, the mark where it did; what is printed; the script; how many there are.
func tell(nodes []api.Node, places map[int]string, o api.Outcome) string {
	at := ""
	if o.At >= 0 {
		at = places[nodes[o.At].At]
	}
	return []string{"done", "fell", "stuck", "out"}[o.Status] + at + ": " + numbers(o.Prints) + " by " + numbers(o.Script) + " of " + strconv.Itoa(o.Runs)
}

// hold holds all outcomes of a marked text against those that are wanted.
func hold(t *testing.T, marked string, want ...string) {
	t.Helper()
	text, places := unmark(marked)
	outcomes, fault := All(text)
	nodes, _ := syntax.Parse(text)
	var got []string
	for _, o := range outcomes {
		got = append(got, tell(nodes, places, o))
		if still := o.Status == api.Done || o.Status == api.Stuck; still != (o.At == -1) {
			t.Errorf("%q: %d at %d", text, o.Status, o.At)
		}
	}
	if fault != (api.Fault{}) || !slices.Equal(got, want) {
		t.Errorf("%q: %v\n%s\nnot\n%s", text, fault, strings.Join(got, "\n"), strings.Join(want, "\n"))
	}
}

// two has two threads that send, and one that receives once.
const two = "func main(){c:=make(chan int);go func(){c<-1}();go func(){c<-2}();print(<-c)}"

// cases writes a select among so many cases that all can be done.
func cases(many int) string {
	return "func main(){c:=make(chan int);close(c);select{" + strings.Repeat("case<-c:", many) + "};panic(1)}"
}

// inRow writes selects, one behind the other: so there are as many runs as their numbers multiplied.
func inRow(many ...int) string {
	text := "func main(){c:=make(chan int);close(c);"
	for _, m := range many {
		text += "select{" + strings.Repeat("case<-c:", m) + "};"
	}
	return text + "}"
}

// TestOutcomes: F2: ways to end, with what is printed, each once, in the order of the first run.
func TestOutcomes(t *testing.T) {
	hold(t, "func main(){}", "done:  by  of 1")
	hold(t, "func main(){print(1+2*3);print(true);print(false)}", "done: 7 1 0 by  of 1")
	hold(t, two, "done: 1 by 0 0 0 of 6", "done: 2 by 2 0 0 of 3")
	hold(t, "func main(){c:=make(chan int);c<-1}", "stuck:  by  of 1")
	hold(t, "func main(){print(4);@1panic(3)}", "fell@1: 4 by  of 1")
	hold(t, "func main(){print(1);for true{print(2);for true@1{}}}", "out@1: 1 2 by  of 1")
	hold(t, "func main(){i:=0;for i<12{i=i+1;@1go func(){<-make(chan int)}()}}", "out@1:  by  of 1")
	hold(t, "func main(){go func(){print(2)}();print(1)}", "done: 1 by 0 0 of 1", "done: 1 2 by 0 1 0 of 2", "done: 2 1 by 1 0 0 of 3")
	// What is sent, received, begun, closed is not printed.
	hold(t, "func main(){c:=make(chan int,1);c<-5;<-c;close(c);<-c;print(-6)}", "done: -6 by  of 1")
	// Runs that come to the same are counted together, also when others come between them.
	ready := "func main(){c:=make(chan int);close(c);"
	hold(t, ready+"select{case<-c:print(1);case<-c:print(2);case<-c:print(1);case<-c:print(3);case<-c:print(2);case<-c:print(1)}}", "done: 1 by 0 of 3", "done: 2 by 1 of 2", "done: 3 by 3 of 1")
	// The same is printed, but it ends in another way, or elsewhere.
	hold(t, ready+"print(8);select{case<-c:@1panic(1);case<-c:@2panic(1);case<-c:case<-c:c=nil;<-c;case<-c:@3panic(1);case<-c:x:=0;x=1@4/x}}",
		"fell@1: 8 by 0 of 1", "fell@2: 8 by 1 of 1", "done: 8 by 2 of 1", "stuck: 8 by 3 of 1", "fell@3: 8 by 4 of 1", "fell@4: 8 by 5 of 1")
	// It ends in the same way, but other numbers, more or fewer, or in another order, are printed.
	hold(t, ready+"select{case<-c:print(1);print(2);case<-c:print(1);case<-c:case<-c:print(2);print(1);case<-c:print(12);case<-c:print(-1);print(2);case<-c:print(1);print(2);case<-c:}}",
		"done: 1 2 by 0 of 2", "done: 1 by 1 of 1", "done:  by 2 of 2", "done: 2 1 by 3 of 1", "done: 12 by 4 of 1", "done: -1 2 by 5 of 1")
	// The first number in which two scripts differ decides, however long they are.
	hold(t, ready+"select{case<-c:select{case<-c:print(1);case<-c:select{case<-c:print(2);case<-c:print(3);case<-c:print(2)}};case<-c:print(4);case<-c:select{case<-c:print(3);case<-c:print(1)}}}",
		"done: 1 by 0 0 of 2", "done: 2 by 0 1 0 of 2", "done: 3 by 0 1 1 of 2", "done: 4 by 1 of 1")
	// The thread, then its case; where there is just one, nothing is picked.
	hold(t, "func main(){c:=make(chan int,1);d:=make(chan int,1);go func(){<-make(chan int)}();select{case c<-1:print(<-c);case d<-2:print(<-d);case <-c:print(3)}}", "done: 1 by 0 of 1", "done: 2 by 1 of 1")
	// What comes hangs on who goes on.
	hold(t, "func main(){x:=1;c:=make(chan int);go func(){<-c;x=0}();c<-1;print(6@1/x)}", "done: 6 by 0 0 0 of 3", "fell@1:  by 1 of 1")
	// Both stand there, whoever is picked: what is else is never done.
	hold(t, "func main(){c:=make(chan int);d:=make(chan int);go func(){select{case c<-1:d<-1;default:}}();select{case <-c:print(1);<-d;default:print(2)}}",
		"done: 1 by 0 0 0 of 8")
}

// TestManyRuns: F1: at most MaxRuns.
func TestManyRuns(t *testing.T) {
	full := api.Fault{Code: api.ErrFull}
	for _, x := range []struct {
		text string
		runs int
	}{
		{cases(1), 1}, {cases(2), 2}, {cases(299), 299}, {cases(300), 300}, {cases(301), 301},
		{inRow(10, 10, 3), 300}, {inRow(2, 3, 2, 5, 5), 300}, {inRow(7, 43), 301}, {inRow(43, 7), 301}, {inRow(2, 151), 302}, {inRow(2, 2, 2, 2, 2, 2, 2, 2), 256}, {inRow(2, 2, 2, 2, 2, 2, 2, 2, 2), 512}, {inRow(17, 1, 17), 289}, {inRow(100, 100), 10000},
		{"func main(){go func(){for true{print(1)}}();for true{print(2)}}", 1 << 60},
		{"func main(){c:=make(chan int);close(c);for true{select{case<-c:case<-c:}}}", 1 << 60},
	} {
		outcomes, fault := All(x.text)
		if x.runs > api.MaxRuns {
			if fault != full || len(outcomes) > 0 {
				t.Errorf("%q: %v, %v", x.text, outcomes, fault)
			}
		} else if fault != (api.Fault{}) || len(outcomes) != 1 || outcomes[0].Runs != x.runs || slices.Max(append(outcomes[0].Script, 0)) != 0 {
			t.Errorf("%q: %v, %v, not %d", x.text, outcomes, fault, x.runs)
		}
		for status := api.Done; status <= api.Out; status++ {
			script, is, fault := Find(x.text, status)
			if x.runs > api.MaxRuns && (fault != full || is || len(script) > 0) {
				t.Errorf("%q: %v, %v, %v", x.text, script, is, fault)
			}
			if x.runs <= api.MaxRuns && (fault != (api.Fault{}) || is != (status == outcomes[0].Status)) {
				t.Errorf("%q: %v, %v, %v", x.text, script, is, fault)
			}
		}
	}
	// Each run may be long, and have many picks.
	hold(t, "func main(){go func(){<-make(chan int)}();c:=make(chan int);close(c);select{case<-c:case<-c:};for @1true{}}", "out@1:  by 0 of 2")
}

// TestEachRunOnce: F1: by all scripts in order: so many outcomes as runs, where each prints something else.
func TestEachRunOnce(t *testing.T) {
	text := "func pick(c chan int) int {select{case<-c:return 0;case<-c:return 1;case<-c:return 2}};func main(){c:=make(chan int);close(c);x:=pick(c);y:=0;if x!=1{y=pick(c)};z:=pick(c);print(x*100+y*10+z)}"
	var want []string
	for x := range 3 {
		for y := range 3 {
			for z := range 3 {
				script := numbers([]int{x, y, z})
				if x == 1 {
					script = numbers([]int{x, z})
				}
				if x != 1 || y == 0 {
					want = append(want, fmt.Sprintf("done: %d by %s of 1", x*100+y*10+z, script))
				}
			}
		}
	}
	hold(t, text, want...)
}

// TestFind: F3: the first run that ends so.
func TestFind(t *testing.T) {
	ends := "func main(){c:=make(chan int);close(c);select{case<-c:case<-c:panic(1);case<-c:select{case<-c:c=nil;<-c;case<-c:panic(2);case<-c:};case<-c:for true{};case<-c:for true{};case<-c:c=nil;<-c}}"
	for _, x := range []struct {
		text   string
		status int
		is     bool
		script []int
	}{
		{two, api.Done, true, []int{0, 0, 0}}, {two, api.Fell, false, nil}, {two, api.Stuck, false, nil}, {two, api.Out, false, nil},
		{ends, api.Done, true, []int{0}}, {ends, api.Fell, true, []int{1}}, {ends, api.Stuck, true, []int{2, 0}}, {ends, api.Out, true, []int{3}},
		// A script may be empty.
		{"func main(){}", api.Done, true, nil}, {"func main(){}", api.Stuck, false, nil}, {"func main(){panic(1)}", api.Fell, true, nil}, {"func main(){<-make(chan int)}", api.Stuck, true, nil}, {"func main(){for true{}}", api.Out, true, nil}, {"func main(){for true{}}", api.Done, false, nil},
		// Neither the first run nor the last one, and the last one.
		{"func main(){c:=make(chan int);close(c);select{case<-c:case<-c:case<-c:};select{case<-c:case<-c:};i:=0;select{case<-c:case<-c:i=1};if i==1{select{case<-c:case<-c:case<-c:panic(1)}}}", api.Fell, true, []int{0, 0, 1, 2}},
		{"func pick(c chan int) int {select{case<-c:return 0;case<-c:return 1;case<-c:return 2}};func main(){c:=make(chan int);close(c);if pick(c)+pick(c)+pick(c)==6{panic(1)}}", api.Fell, true, []int{2, 2, 2}},
		{"func main(){x:=1;c:=make(chan int);go func(){<-c;x=0}();c<-1;print(6/x)}", api.Fell, true, []int{1}},
	} {
		script, is, fault := Find(x.text, x.status)
		if fault != (api.Fault{}) || is != x.is || !slices.Equal(script, x.script) {
			t.Errorf("%q: %d: %v, %v, %v, not %v, %v", x.text, x.status, script, is, fault, x.script, x.is)
		}
	}
}

// TestWrongStatus: F3: ErrRange, ahead of ErrFull, behind what is wrong with the text.
func TestWrongStatus(t *testing.T) {
	wrong := "func main(){x:=1;x=true}"
	for _, status := range []int{-1, 4, 5, 300, -4, math.MinInt, math.MaxInt, 1 << 32, 1<<32 + 1} {
		for _, text := range []string{two, "func main(){}", cases(301), inRow(100, 100)} {
			if script, is, fault := Find(text, status); fault != (api.Fault{Code: api.ErrRange}) || is || len(script) > 0 {
				t.Errorf("%q: %d: %v, %v, %v", text, status, script, is, fault)
			}
		}
		if script, is, fault := Find(wrong, status); fault != (api.Fault{Code: api.ErrType, At: 17}) || is || len(script) > 0 {
			t.Errorf("%d: %v, %v, %v", status, script, is, fault)
		}
	}
}

// TestFaults: F1: Check's fault comes first.
func TestFaults(t *testing.T) {
	for _, x := range []struct {
		text string
		code api.Errno
	}{
		{"", api.ErrMain},
		{strings.Repeat(" ", api.MaxText+1), api.ErrSize},
		{"func main(){print(\xff)}", api.ErrRune},
		{"func main(){", api.ErrSyntax},
		{"func main(){print" + strings.Repeat("(", 40) + "1" + strings.Repeat(")", 40) + "}", api.ErrDeep},
		{"func main(){" + strings.Repeat("print(1);", 600) + "}", api.ErrFull},
		{"func main(){print(x)}", api.ErrName},
		{"func main(){x:=1;x:=2}", api.ErrTwice},
		{"func main(){x:=1;x=true}", api.ErrType},
		{"func f(){};func main(){f(1)}", api.ErrCount},
		{"func f(){}", api.ErrMain},
		{"func main(){make(chan int,9)}", api.ErrRange},
		{"func main(){c:=make(chan int);select{" + strings.Repeat("case<-c:", 350) + "};break}", api.ErrType},
	} {
		_, want := check.Check(x.text)
		if want.Code != x.code {
			t.Fatalf("%q: %v", x.text, want)
		}
		if outcomes, fault := All(x.text); fault != want || len(outcomes) > 0 {
			t.Errorf("%q: %v, %v, not %v", x.text, outcomes, fault, want)
		}
		for status := api.Done; status <= api.Out; status++ {
			if script, is, fault := Find(x.text, status); fault != want || is || len(script) > 0 {
				t.Errorf("%q: %d: %v, %v, %v, not %v", x.text, status, script, is, fault, want)
			}
		}
	}
}

// TestNewMemory: P3: no two lists of an answer share anything, neither below their lengths nor behind them, and nothing is kept.
func TestNewMemory(t *testing.T) {
	text := "func main(){c:=make(chan int);go func(){print(2);c<-1}();select{case<-c:print(1);case x:=<-c:print(x);print(3)}}"
	want, _ := All(text)
	got, _ := All(text)
	for i := range got {
		for _, list := range []*[]int{&got[i].Prints, &got[i].Script} {
			kept := slices.Clone(*list)
			whole := (*list)[:cap(*list)]
			for k := range whole {
				whole[k] = -9
			}
			copy(*list, kept)
			if !reflect.DeepEqual(got, want) {
				t.Fatalf("%v, not %v", got, want)
			}
		}
	}
	for i := range got {
		clear(got[i].Prints)
		clear(got[i].Script)
	}
	if again, _ := All(text); !reflect.DeepEqual(again, want) {
		t.Errorf("%v, not %v", again, want)
	}
}

// TestAnswersHangOnArguments: P3: the same comes each time, also when calls go on beside each other.
func TestAnswersHangOnArguments(t *testing.T) {
	want, _ := All(two)
	var all sync.WaitGroup
	for range 8 {
		all.Go(func() {
			for range 20 {
				if got, fault := All(two); fault != (api.Fault{}) || !reflect.DeepEqual(got, want) {
					t.Error(got, fault, want)
				}
				if script, is, fault := Find(two, api.Done); fault != (api.Fault{}) || !is || !slices.Equal(script, want[0].Script) {
					t.Error(script, is, fault)
				}
			}
		})
	}
	all.Wait()
}

// TestNobodyIsLeft: all threads of all runs are gone when a call answers.
func TestNobodyIsLeft(t *testing.T) {
	ahead := runtime.NumGoroutine()
	for _, text := range []string{two, cases(301), "func main(){i:=0;for i<12{i=i+1;go func(){<-make(chan int)}()}}"} {
		All(text)
		Find(text, api.Done)
	}
	// A goroutine that has told that it is done may not be gone yet.
	for range 100 {
		if runtime.NumGoroutine() <= ahead {
			return
		}
		time.Sleep(10 * time.Millisecond)
	}
	t.Error(runtime.NumGoroutine()-ahead, "goroutines are left")
}

// TestManyStand: a look at who is able does not go through all pairs of cases: else this takes minutes.
func TestManyStand(t *testing.T) {
	begun := time.Now()
	text := "func f(c chan int){select{" + strings.Repeat("case<-c:", 150) + "}};func main(){c:=make(chan int);w:=make(chan int);close(w);select{" + strings.Repeat("case<-w:", 150) + "};" + strings.Repeat("go f(c);", 11) + "for true{print(1)}}"
	outcomes, fault := All(text)
	if fault != (api.Fault{}) || len(outcomes) != 1 || outcomes[0].Runs != 150 || outcomes[0].Status != api.Out {
		t.Error(fault, len(outcomes))
	}
	if spent := time.Since(begun); spent > 30*time.Second {
		t.Error("it took", spent)
	}
}
