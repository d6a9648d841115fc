package desk

import (
	"runtime"
	"strconv"
	"strings"
	"sync"
	"testing"
	"time"

	"ravel/api"
	"ravel/check"
	"ravel/fold"
	"ravel/syntax"
)

const (
	sum  = "func main(){x:=1;print(x+1)}"
	two  = "func main(){c:=make(chan int);go func(){c<-1}();go func(){c<-2}();print(<-c)}"
	race = "func main(){x:=0;go func(){x=1}();x=2;print(x)}"
	lost = "func f(){}"
	// shut has a channel that is closed, so that all cases of a select are able.
	shut = "func main(){c:=make(chan int);close(c);"
)

// hold holds the answer of one line.
func hold(t *testing.T, text, line, want string) {
	t.Helper()
	if got := Run(text, line); got != want+"\n" {
		t.Errorf("%q of %.200q: %q, not %q", line, text, got, want)
	}
}

// TestLines: S1: what stands between line feeds, and behind the last one, if that is not empty.
func TestLines(t *testing.T) {
	for _, x := range [][2]string{
		{"", ""}, {"\n", "?\n"}, {"\n\n", "?\n?\n"}, {"\n\n\n", "?\n?\n?\n"},
		{"check", "ok\n"}, {"check\n", "ok\n"}, {"check\n\n", "ok\n?\n"}, {"\ncheck", "?\nok\n"}, {"\ncheck\n", "?\nok\n"},
		{"check\nrun", "ok\n2 done\n"}, {"check\nrun\n", "ok\n2 done\n"}, {"check\n\nrun", "ok\n?\n2 done\n"}, {"run\ncheck", "2 done\nok\n"},
		{"check\r\nrun\r\n", "?\n?\n"}, {"check\rrun", "?\n"}, {" ", "?\n"}, {" \n ", "?\n?\n"},
		{"run\nrun\ncheck\nrun\nwhat\nwhat\ncheck", "2 done\n2 done\nok\n2 done\n?\n?\nok\n"},
	} {
		if got := Run(sum, x[0]); got != x[1] {
			t.Errorf("%q: %q, not %q", x[0], got, x[1])
		}
	}
}

// TestWords: S1: a line that is none is answered "?", of any program.
func TestWords(t *testing.T) {
	words := []string{"check", "types", "run", "outcomes", "calls", "idle", "quiet", "races", "value 1", "points 1", "fold", "code"}
	for _, word := range words {
		if got := Run(sum, word); got == "?\n" || strings.Count(got, "\n") != 1 || strings.HasPrefix(got, "fault") {
			t.Errorf("%q: %q", word, got)
		}
		hold(t, lost, word, "fault 10 0")
		for _, line := range []string{
			" " + word, word + " ", "\t" + word, word + "\t", word + "\r", word + "\x00", word + ";", "x" + word, word + "x", word[1:], strings.ToUpper(word), strings.ToUpper(word[:1]) + word[1:],
			word + " " + word, word + " x", word + " 1x", word + " 1.", word + ",1", word + " 1,2", word + " \xff", word + " ١", word + " １",
			word + "  1", word + " 1 ", word + "\t1", word + " 1\t", word + " 1  2", "1 " + word,
		} {
			hold(t, sum, line, "?")
			hold(t, lost, line, "?")
		}
	}
	for _, line := range []string{"", "what", "1", "-", "?", "value", "points", "value x", "all", "find", "print", "uses", "met", "rings", "asserts", "goes", "of", "vm", "help", "checkrun", "run,check", "\xff", "check\x00", "日", strings.Repeat("check", 700), strings.Repeat(" ", 3999)} {
		for _, text := range []string{sum, lost, "", "\xff"} {
			if got := Run(text, line+"\n"); got != "?\n" {
				t.Errorf("%q: %q", line, got)
			}
		}
	}
}

// TestLimits: S1: at most 4000 bytes and 40 lines.
func TestLimits(t *testing.T) {
	const tooMuch = "error size\n"
	for _, text := range []string{sum, lost, ""} {
		checked := Run(text, "check")
		for _, x := range []struct {
			questions, want string
		}{
			{strings.Repeat("check\n", 40), strings.Repeat(checked, 40)},
			{strings.Repeat("check\n", 39) + "check", strings.Repeat(checked, 40)},
			{strings.Repeat("check\n", 40) + "check", tooMuch},
			{strings.Repeat("check\n", 41), tooMuch},
			{strings.Repeat("check\n", 40) + "\n", tooMuch},
			{strings.Repeat("\n", 40), strings.Repeat("?\n", 40)},
			{strings.Repeat("\n", 41), tooMuch},
			{strings.Repeat("\n", 40) + "x", tooMuch},
			{strings.Repeat("\n", 39) + "x", strings.Repeat("?\n", 40)},
			{strings.Repeat("\n", 4000), tooMuch},
			{strings.Repeat("x", 4000), "?\n"},
			{strings.Repeat("x", 4001), tooMuch},
			{strings.Repeat("x", 3999) + "\n", "?\n"},
			{strings.Repeat("x", 4000) + "\n", tooMuch},
			{"check\n" + strings.Repeat("x", 3995), tooMuch},
			{"check\n" + strings.Repeat("x", 3994), checked + "?\n"},
			{strings.Repeat("é", 2000), "?\n"},
			{strings.Repeat("é", 2000) + "x", tooMuch},
			{"run" + strings.Repeat(" 0", 1998), Run(text, "run")},
			{"run" + strings.Repeat(" 0", 1999), tooMuch},
			{strings.Repeat("x", 1<<20), tooMuch},
		} {
			if got := Run(text, x.questions); got != x.want {
				t.Errorf("%d bytes, %.20q: %.200q, not %.200q", len(x.questions), x.questions, got, x.want)
			}
		}
	}
}

// TestNumbers: S1: how numbers are written, and how many may stand there.
func TestNumbers(t *testing.T) {
	good := []string{"0", "1", "9", "10", "100", "909", "123456789", "999999999", "-1", "-9", "-10", "-100", "-123456789", "-999999999"}
	bad := []string{"00", "01", "007", "0000000001", "1000000000", "1234567890", "-0", "-00", "-01", "-007", "-1000000000", "-", "--1", "- 1", "1-", "1-1", "+0", "+1", "1_0", "0x1", "1e3", "1.0", "٣", "99999999999999999999", "-99999999999999999999", "9223372036854775808", ""}
	for _, word := range good {
		for _, question := range []string{"run ", "races ", "run 1 ", "races -1 0 "} {
			hold(t, lost, question+word, "fault 10 0")
			hold(t, lost, question+word+" 3", "fault 10 0")
		}
		for _, question := range []string{"value ", "points "} {
			hold(t, lost, question+word, "fault 10 0")
			hold(t, lost, question+word+" 1", "?")
			hold(t, sum, question+"1 "+word, "?")
		}
		for _, question := range []string{"check ", "types ", "outcomes ", "calls ", "idle ", "quiet ", "fold ", "code "} {
			hold(t, lost, question+word, "?")
			hold(t, sum, question+word, "?")
		}
	}
	for _, word := range bad {
		for _, question := range []string{"run ", "races ", "value ", "points ", "check ", "run 1 ", "races -1 0 ", "value 1 "} {
			hold(t, lost, question+word, "?")
			hold(t, sum, question+word, "?")
			hold(t, lost, question+word+" 3", "?")
			hold(t, sum, question+word+" 3", "?")
		}
	}
	hold(t, two, "run"+strings.Repeat(" 2 -3", 700), "2 done")
	hold(t, two, "run"+strings.Repeat(" 2", 700)+" 02", "?")
}

// TestFaults: S1: a fault of the program is told of each line that is one.
func TestFaults(t *testing.T) {
	deep := "func main(){print(" + strings.Repeat("(", 30) + "1" + strings.Repeat(")", 30) + ")}"
	for _, x := range []struct {
		text, want string
	}{
		{strings.Repeat(" ", 6001), "fault 1 0"},
		{"func main(){\xff}", "fault 2 12"},
		{"func main(){$}", "fault 2 12"},
		{"func main(){print(01)}", "fault 3 18"},
		{"func main(){", "fault 3 12"},
		{deep, "fault 4 46"},
		{"func main(){" + strings.Repeat("print(1);", 599) + "}", "fault 5 5404"},
		{"func main(){x}", "fault 6 12"},
		{"func main(){};func main(){}", "fault 7 14"},
		{"func main(){x:=1;x=true}", "fault 8 17"},
		{"func main(){main(1)}", "fault 9 16"},
		{"", "fault 10 0"},
		{lost, "fault 10 0"},
		{"func main(x int){}", "fault 10 0"},
		{"func f(){};func main(x int){}", "fault 10 11"},
		{"func main(){make(chan int,9)}", "fault 11 12"},
	} {
		lines := []string{"check", "types", "run", "run 1 2", "outcomes", "calls", "idle", "quiet", "races", "races 0", "value 0", "value 99", "value -1", "points 0", "points 999999999", "points -999999999", "fold", "code"}
		for _, line := range lines {
			hold(t, x.text, line, x.want)
		}
		want := strings.Repeat(x.want+"\n", len(lines)) + "?\n" + x.want + "\n"
		if got := Run(x.text, strings.Join(lines, "\n")+"\nvalue\ncheck"); got != want {
			t.Errorf("%.200q: %q", x.text, got)
		}
		if _, fault := check.Check(x.text); "fault "+strconv.Itoa(int(fault.Code))+" "+strconv.Itoa(fault.At) != x.want {
			t.Errorf("%.200q: %v", x.text, fault)
		}
	}
}

// TestTypes: S1: of each node with a type.
func TestTypes(t *testing.T) {
	hold(t, "func main(){}", "types", "0:func()")
	hold(t, sum, "types", "0:func(); 1:int; 3:int; 4:int; 5:int")
	hold(t, "type A struct{};type I interface{m(a *A,n int)};func f(i I,c chan func(int,bool) *A)I{return nil};func main(){f(nil,nil)}", "types",
		"1:*A; 3:int; 5:func(*A,int); 8:I; 10:int; 11:bool; 12:*A; 13:func(int,bool) *A; 14:chan func(int,bool) *A; 16:I; 17:func(I,chan func(int,bool) *A) I; 18:nil; 22:func(); 23:func(I,chan func(int,bool) *A) I; 24:nil; 25:nil; 26:I")
	// A call that gives nothing back has none.
	hold(t, "func main(){main()}", "types", "0:func(); 1:func()")
}

// TestRun: S1: what is printed, how it ends.
func TestRun(t *testing.T) {
	for _, x := range []struct {
		text, line, want string
	}{
		{"func main(){}", "run", "done"},
		{"func main(){}", "run 1 2 3", "done"},
		{sum, "run", "2 done"},
		{"func main(){print(1);print(-2);print(true);print(false);print(0);print(10)}", "run", "1 -2 1 0 0 10 done"},
		{"func main(){x:=999999999*999999999*9;print(x);print(-x);print(x*2)}", "run", "8999999982000000009 -8999999982000000009 -446744109709551598 done"},
		{two, "run", "1 done"}, {two, "run 0", "1 done"}, {two, "run 1", "1 done"}, {two, "run 2", "2 done"}, {two, "run 3", "1 done"}, {two, "run -1", "2 done"}, {two, "run 5", "2 done"},
		{two, "run 2 0", "2 done"}, {two, "run -999999999", "1 done"}, {two, "run 999999998", "2 done"},
		// What is sent, received, closed, begun is not told.
		{"func main(){c:=make(chan int,1);c<-5;<-c;close(c);go func(){}()}", "run", "done"},
		{"func main(){panic(7)}", "run", "fell 2"},
		{"func main(){print(3);x:=0;print(1/x)}", "run", "3 fell 7"},
		{"func main(){c:=make(chan int);c<-1}", "run", "stuck"},
		{"func main(){print(4);print(5);<-make(chan int)}", "run", "4 5 stuck"},
		{"func main(){for true{}}", "run", "out 1"},
		{"func main(){print(6);for true{}}", "run", "6 out 3"},
		{"func main(){i:=0;for i<12{i=i+1;go func(){<-make(chan int)}()}}", "run", "out 19"},
		{shut + "select{case<-c:print(1);case<-c:print(2);case<-c:print(3);panic(1);case<-c:<-make(chan int)}}", "run 0", "1 done"},
		{shut + "select{case<-c:print(1);case<-c:print(2);case<-c:print(3);panic(1);case<-c:<-make(chan int)}}", "run 1", "2 done"},
		{shut + "select{case<-c:print(1);case<-c:print(2);case<-c:print(3);panic(1);case<-c:<-make(chan int)}}", "run -2", "3 fell 20"},
		{shut + "select{case<-c:print(1);case<-c:print(2);case<-c:print(3);panic(1);case<-c:<-make(chan int)}}", "run 7", "stuck"},
	} {
		hold(t, x.text, x.line, x.want)
	}
}

// TestOutcomes: S1: what can come, and how often; full, where there are too many runs.
func TestOutcomes(t *testing.T) {
	for _, x := range []struct {
		text, want string
	}{
		{"func main(){}", "done x 1"},
		{sum, "2 done x 1"},
		{two, "1 done x 6; 2 done x 3"},
		{"func main(){go func(){print(2)}();print(1)}", "1 done x 1; 1 2 done x 2; 2 1 done x 3"},
		{"func main(){c:=make(chan int);c<-1}", "stuck x 1"},
		{"func main(){for true{}}", "out 1 x 1"},
		{shut + "print(8);select{case<-c:panic(1);case<-c:case<-c:<-make(chan int);case<-c:for true{};case<-c:panic(2);case<-c:}}", "8 fell 10 x 1; 8 done x 2; 8 stuck x 1; 8 out 24 x 1; 8 fell 31 x 1"},
		{shut + "select{" + strings.Repeat("case<-c:", 300) + "}}", "done x 300"},
		{shut + "select{" + strings.Repeat("case<-c:", 301) + "}}", "full"},
		{"func main(){go func(){for true{print(1)}}();for true{print(2)}}", "full"},
	} {
		hold(t, x.text, "outcomes", x.want)
	}
}

// TestLists: S1: what is told of pairs and nodes; none, where there are none.
func TestLists(t *testing.T) {
	things := "type A struct{n int};type B struct{};type I interface{m() int};func (a *A) m() int{return a.n};func (b *B) m() int{print(1);return 2};func f(i I) int{return i.m()};func e(){};func main(){f(new(A));f(new(B));e();e();go e();h:=func(){};h()}"
	for _, x := range []struct {
		text, line, want string
	}{
		{"func main(){}", "calls", "none"}, {"func main(){}", "idle", "none"}, {"func main(){}", "quiet", "none"}, {"func main(){}", "races", "none"},
		{"func main(){main()}", "calls", "2>5"}, {"func main(){main()}", "quiet", "2"},
		{"func main(){f:=main;f=nil;f();main();go main()}", "calls", "7>16 10>16 13>16"},
		{"func f(){};func g(){print(1)};func main(){f();g();go g()}", "calls", "10>2 13>7 16>7"},
		{"func f(){};func g(){print(1)};func main(){f();g();go g()}", "quiet", "10"},
		{things, "calls", "33>16 33>26 43>36 47>36 50>39 53>39 56>39 63>60"},
		{things, "quiet", "50 53 63"},
		{"func main(){x:=1;x=2;print(x);y:=3;go func(){print(y)}()}", "idle", "2"},
		{"func main(){x:=1;x=2;y:=x;x=y}", "idle", "2 10"},
		{"func main(){x:=1;x=2;x=3}", "idle", "2 5 8"},
		{race, "races", "6-13 6-14"}, {race, "races 1", "6-13 6-14"}, {race, "races -7 3 0", "6-13 6-14"},
		{two, "races", "none"}, {two, "races 2 1", "none"},
		{"func main(){x:=0;go func(){x=1}();go func(){x=2}();x=x}", "races", "6-14 6-20 6-21 14-20 14-21"},
		// By the same node, in two threads.
		{"func main(){x:=0;f:=func(){x=1};go f();go f();<-make(chan int)}", "races", "6-6"},
		// Just by some scripts.
		{shut + "x:=0;select{case<-c:case<-c:go func(){x=1}()};print(x)}", "races", "none"},
		{shut + "x:=0;select{case<-c:case<-c:go func(){x=1}()};print(x)}", "races 1", "15-23"},
	} {
		hold(t, x.text, x.line, x.want)
	}
}

// TestValue: S1: what is known of a node's value.
func TestValue(t *testing.T) {
	text := "func f(n int)int{if false{print(1)};return -n};func main(){x:=3;print(-x);print(f(x));print(x>4);print(x>4&&f(1)>0)}"
	nodes, _ := syntax.Parse(text)
	want := map[int]string{4: "always 0", 5: "no", 9: "any", 10: "any", 15: "always 3", 16: "no", 17: "always 3", 18: "always -3", 20: "no", 21: "always 3", 22: "any", 26: "always 0", 33: "no", 36: "always 0"}
	for node, told := range want {
		hold(t, text, "value "+strconv.Itoa(node), told)
	}
	for node := range nodes {
		got := Run(text, "value "+strconv.Itoa(node))
		if isValue := nodes[node].Kind >= api.KNumber; got == "?\n" || got != "no\n" && !isValue {
			t.Errorf("%d: %q", node, got)
		}
	}
	for _, number := range []int{len(nodes), len(nodes) + 1, 9999, 999999999, -1, -2, -999999999} {
		hold(t, text, "value "+strconv.Itoa(number), "?")
		hold(t, lost, "value "+strconv.Itoa(number), "fault 10 0")
	}
	hold(t, text, "value 0", "no")
	hold(t, text, "value "+strconv.Itoa(len(nodes)-1), "no")
}

// TestPoints: S1: the sites of a node's set.
func TestPoints(t *testing.T) {
	text := "type A struct{n *A};func main(){a:=new(A);b:=a;b.n=new(A);if true{a=b.n};a.n=nil}"
	nodes, _ := syntax.Parse(text)
	for node, told := range map[int]string{0: "none", 4: "4", 5: "4 10", 6: "4 10", 7: "4 10", 10: "10", 14: "4 10", 15: "10", len(nodes) - 1: "none"} {
		hold(t, text, "points "+strconv.Itoa(node), told)
	}
	for _, number := range []int{len(nodes), len(nodes) + 1, 9999, 999999999, -1, -2, -999999999} {
		hold(t, text, "points "+strconv.Itoa(number), "?")
		hold(t, lost, "points "+strconv.Itoa(number), "fault 10 0")
	}
	hold(t, "func main(){f:=main;f=func(){};c:=make(chan int);print(c==nil)}", "points 2", "6 16")
}

// TestFold: S1: how many nodes there are, or full: it gets too long, too deep, of too many nodes.
func TestFold(t *testing.T) {
	hold(t, "func main(){}", "fold", "4")
	hold(t, sum, "fold", "8")
	hold(t, "func main(){x:=2;if x<3{print(x+1)}else{print(0)}}", "fold", "11")
	hold(t, "func main(){x:=-1;print(x);print(x)}", "fold", "13")
	hold(t, "func main(){for false{print(1)}}", "fold", "4")
	hold(t, two, "fold", "26")

	values := func(many int) string {
		return "func main(){x:=-1;h:=func(a int,b int,c int,d int,e int){};" + strings.Repeat("h(x,x,x,x,x);", many) + "}"
	}
	nested := func(deep int) string {
		return "func main(){x:=-1;f:=func(n int)int{return n};f(" + strings.Repeat("f(", deep) + "x" + strings.Repeat(")", deep) + ")}"
	}
	for _, x := range []struct {
		text string
		code api.Errno // of what is read
	}{
		{"func main(){" + strings.Repeat("if main==nil{", 20) + strings.Repeat("print(1);", 100) + strings.Repeat("}", 21), api.OK},
		{"func main(){" + strings.Repeat("if main==nil{", 20) + strings.Repeat("print(1);", 250) + strings.Repeat("}", 21), api.ErrSize},
		{values(40), api.OK}, {values(100), api.ErrFull},
		{nested(27), api.OK}, {nested(28), api.ErrDeep},
	} {
		folded, fault := fold.Fold(x.text)
		nodes, again := syntax.Parse(folded)
		if fault.Code != api.OK || again.Code != x.code {
			t.Fatalf("%.200q: %v; %v, not %d", x.text, fault, again, x.code)
		}
		want := "full"
		if x.code == api.OK {
			want = strconv.Itoa(len(nodes))
		}
		hold(t, x.text, "fold", want)
		hold(t, x.text, "check", "ok")
		hold(t, x.text, "code", "ok")
	}
}

// everything asks all that there is.
const everything = "check\ntypes\nrun\nrun 1 2\noutcomes\ncalls\nidle\nquiet\nraces\nraces 2 1\nvalue 5\npoints 5\nvalue -1\npoints 9999\nfold\ncode\nwhat"

// TestByThemselves: P3: what a line is answered does not hang on the lines around it.
func TestByThemselves(t *testing.T) {
	lines := strings.Split(everything, "\n")
	for _, text := range []string{sum, two, race, lost, shut + "select{case<-c:print(1);case<-c:panic(1)}}"} {
		var alone []string
		for _, line := range lines {
			alone = append(alone, Run(text, line))
		}
		for first, a := range lines {
			for second, b := range lines {
				if got := Run(text, a+"\n"+b+"\n"+a); got != alone[first]+alone[second]+alone[first] {
					t.Errorf("%q, %q of %q: %q", a, b, text, got)
				}
			}
		}
		if got := Run(text, everything); got != strings.Join(alone, "") {
			t.Errorf("%q: %q", text, got)
		}
	}
}

// TestAtOnce: P3: calls have nothing to do with each other; none leaves a thread behind.
func TestAtOnce(t *testing.T) {
	ahead := runtime.NumGoroutine()
	texts := []string{sum, two, race, lost}
	var wants []string
	for _, text := range texts {
		wants = append(wants, Run(text, everything))
	}
	var all sync.WaitGroup
	for round := range 16 {
		all.Add(1)
		go func() {
			defer all.Done()
			if got := Run(texts[round%4], everything); got != wants[round%4] {
				t.Errorf("%q: %q, not %q", texts[round%4], got, wants[round%4])
			}
		}()
	}
	all.Wait()
	for range 100 {
		if runtime.NumGoroutine() <= ahead {
			return
		}
		time.Sleep(10 * time.Millisecond)
	}
	t.Error(runtime.NumGoroutine()-ahead, "goroutines are left")
}

// TestGreat: P1: what takes long is not done again for each line.
func TestGreat(t *testing.T) {
	begun := time.Now()
	for _, text := range []string{
		"func main(){go func(){for true{print(1)}}();for true{print(2)}}",
		shut + "select{" + strings.Repeat("case<-c:", 300) + "};for true{print(1)}}",
		"type A struct{a *A};func main(){x:=new(A);" + strings.Repeat("x.a=new(A);x=x.a;", 100) + "}",
	} {
		outcomes := Run(text, "outcomes")
		if got := Run(text, strings.Repeat("outcomes\n", 40)); got != strings.Repeat(outcomes, 40) {
			t.Errorf("%.100q: %.100q", text, got)
		}
		var lines []string
		for number := range 40 {
			lines = append(lines, []string{"run ", "races ", "value ", "points "}[number%4]+strconv.Itoa(number))
		}
		if got := Run(text, strings.Join(lines, "\n")); strings.Count(got, "\n") != 40 {
			t.Errorf("%.100q: %.100q", text, got)
		}
	}
	if spent := time.Since(begun); spent > 30*time.Second {
		t.Error(spent)
	}
}

// TestStays: P3: all questions are asked of one program: none changes it.
func TestStays(t *testing.T) {
	for _, text := range []string{sum, two, race} {
		about := &program{text: text}
		told := answers(about, strings.Split(everything, "\n"))
		again, fault := check.Read(text)
		if fault.Code != api.OK || !sameNodes(about.checked.Nodes, again.Nodes) || strings.Join(about.checked.Texts, ";") != strings.Join(again.Texts, ";") || row(about.checked.Uses) != row(again.Uses) {
			t.Errorf("%q is not the same any more", text)
		}
		if again := answers(about, strings.Split(everything, "\n")); again != told {
			t.Errorf("%q: %q, then %q", text, told, again)
		}
	}
}

func sameNodes(a, b []api.Node) bool {
	for i := range max(len(a), len(b)) {
		if i >= len(a) || i >= len(b) || a[i].Kind != b[i].Kind || a[i].At != b[i].At || a[i].Num != b[i].Num || a[i].Text != b[i].Text || row(a[i].Kids) != row(b[i].Kids) {
			return false
		}
	}
	return true
}

// TestFirstNeeded: a program is checked when it is first needed, and once.
func TestFirstNeeded(t *testing.T) {
	about := &program{text: sum}
	answers(about, []string{"what", "run 01", "value"})
	if about.checked.Nodes != nil {
		t.Error("it is checked, though nobody needs it")
	}
	answers(about, []string{"check"})
	if about.checked.Nodes == nil {
		t.Fatal("it is not checked")
	}
	// Another text would be read, if it were checked again.
	about.text = lost
	if got := answers(about, []string{"check", "run", "fold", "calls"}); got != "ok\n2 done\n8\nnone\n" {
		t.Errorf("it is checked again: %q", got)
	}
	wrong := &program{text: lost}
	answers(wrong, []string{"check"})
	wrong.text = sum
	if got := answers(wrong, []string{"check", "run"}); got != "fault 10 0\nfault 10 0\n" {
		t.Errorf("it is checked again: %q", got)
	}
}
