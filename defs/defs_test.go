package defs

import (
	"fmt"
	"slices"
	"strconv"
	"strings"
	"testing"

	"ravel/api"
	"ravel/check"
	"ravel/flow"
	"ravel/syntax"
)

// unmark takes the marks (@ and a sign) out of a text, and answers which ones stood ahead of which byte.
func unmark(marked string) (string, map[int]string) {
	var text strings.Builder
	marks := map[int]string{}
	for i := 0; i < len(marked); i++ {
		if marked[i] == '@' {
			i++
			marks[text.Len()] = marked[i : i+1]
			continue
		}
		text.WriteByte(marked[i])
	}
	return text.String(), marks
}

// told has what is told of a marked text, by its marks: lists in the order of their signs; of Comes and Needed the sign of the node, a colon, and those of its list.
type told struct {
	shared, comes, needed, idle string
}

func sorted(words []string, between string) string {
	slices.Sort(words)
	return strings.Join(words, between)
}

// namer answers signs of nodes: those of nodes that are not of these kinds, or not marked, are their numbers.
func namer(nodes []api.Node, marks map[int]string) func(number int, kinds ...int) string {
	return func(number int, kinds ...int) string {
		n := nodes[number]
		if mark := marks[n.At]; mark != "" && slices.Contains(kinds, n.Kind) {
			return mark
		}
		return fmt.Sprintf("<%d>", number)
	}
}

var (
	variableKinds = []int{api.KDefine, api.KCaseRecv, api.KParam}
	setterKinds   = append([]int{api.KAssign}, variableKinds...)
	stationKinds  = []int{api.KFunc, api.KMethod, api.KLit, api.KSig, api.KDefine, api.KAssign, api.KDo, api.KSend, api.KGo, api.KIf, api.KFor, api.KReturn, api.KBreak, api.KSelect, api.KClose, api.KPanic, api.KPrint}
)

func isRising(list []int) bool {
	return slices.IsSorted(list) && len(slices.Compact(slices.Clone(list))) == len(list)
}

// tell asks all four faces of a marked text.
func tell(t *testing.T, marked string) told {
	t.Helper()
	text, marks := unmark(marked)
	nodes, fault := syntax.Parse(text)
	shared, first := Shared(text)
	comes, second := Comes(text)
	needed, third := Needed(text)
	idle, fourth := Idle(text)
	if fault.Code+first.Code+second.Code+third.Code+fourth.Code != api.OK || len(shared) != len(nodes) || len(comes) != len(nodes) || len(needed) != len(nodes) {
		t.Fatalf("%q: %v, %v, %v, %v, %v; %d, %d, %d", text, fault, first, second, third, fourth, len(shared), len(comes), len(needed))
	}
	name := namer(nodes, marks)
	lists := func(all [][]int, kinds, within []int) string {
		var words []string
		for number, list := range all {
			if !isRising(list) {
				t.Errorf("%q: %v is not rising", text, list)
			}
			var word []string
			for _, one := range list {
				word = append(word, name(one, within...))
			}
			if len(word) > 0 {
				words = append(words, name(number, kinds...)+":"+sorted(word, ""))
			}
		}
		return sorted(words, " ")
	}
	var ones, idles []string
	for number, one := range shared {
		if one == 1 {
			ones = append(ones, name(number, variableKinds...))
		} else if one != 0 {
			t.Errorf("%q: %d is shared %d times", text, number, one)
		}
	}
	for _, one := range idle {
		idles = append(idles, name(one, api.KDefine, api.KAssign))
	}
	if !isRising(idle) {
		t.Errorf("%q: %v is not rising", text, idle)
	}
	return told{sorted(ones, " "), lists(comes, []int{api.KName}, setterKinds), lists(needed, stationKinds, variableKinds), sorted(idles, " ")}
}

func hold(t *testing.T, marked string, want told) {
	t.Helper()
	if got := tell(t, marked); got != want {
		t.Errorf("%q:\n%q\nnot\n%q", marked, got, want)
	}
}

func holdShared(t *testing.T, marked, want string) {
	t.Helper()
	if got := tell(t, marked).shared; got != want {
		t.Errorf("%q: %q, not %q", marked, got, want)
	}
}

// TestShared: H1: names in literals within the function whose the variable is.
func TestShared(t *testing.T) {
	holdShared(t, "func main(){@1x:=1;@2y:=2;print(x);go func(){print(y)}()}", "2")
	// Setting is naming, too; also if nobody reads it, or nobody comes there.
	holdShared(t, "func main(){@1x:=1;go func(){x=2}()}", "1")
	holdShared(t, "func main(){@1x:=1;return;go func(){return;print(x)}()}", "1")
	holdShared(t, "type A struct{n int};func main(){@1p:=new(A);@2q:=p;q.n=1;go func(){p.n=2}()}", "1")
	// Params: of functions, methods (their own one, too), literals.
	holdShared(t, "func f(@1a int,@2b int){go func(){print(b)}();print(a)};func main(){}", "2")
	holdShared(t, "type A struct{n int};func(@1a *A)m(@2b int){go func(){print(a.n)}();print(b)};func(@3a *A)o(@4b int){go func(){print(b)}();print(a.n)};func main(){}", "1 4")
	holdShared(t, "func main(){go func(@1a int,@2b int){go func(){print(a)}();print(b)}(1,2)}", "1")
	// What cases receive.
	holdShared(t, "func main(){@1c:=make(chan int);select{@2case x:=<-c:print(x);@3case y:=<-c:go func(){print(y)}();case <-c:go func(){print(1)}()}}", "3")
	holdShared(t, "func main(){@1c:=make(chan int);select{@2case x:=<-func()chan int{return c}():print(x)}}", "1")
	// A literal's own variables are not shared by being named in it.
	holdShared(t, "func main(){go func(@1a int){@2b:=a;@3c:=make(chan int);select{@4case d:=<-c:print(b+d)}}(1)}", "")
	// Literals in literals, any number of them.
	holdShared(t, "func main(){@1x:=1;go func(){@2y:=2;go func(){@3z:=3;go func(){@4w:=4;print(x+z+w)}()}()}()}", "1 3")
	// Another variable of the same name.
	holdShared(t, "func main(){@1x:=1;go func(){@2x:=2;print(x)}();go func(@3x int){print(x)}(x)}", "")
	holdShared(t, "func main(){@1x:=1;if true{@2x:=2;go func(){print(x)}();x=3};print(x)}", "2")
	// In its own value a name is one from around: the inner x is not named.
	holdShared(t, "func main(){@1x:=1;if true{@2x:=func()int{return x};print(x())}}", "1")
	holdShared(t, "func x()int{return 1};func main(){@2x:=func()int{return x()};print(x())}", "")
	// A literal stands anywhere.
	holdShared(t, "func main(){@1x:=1;@2y:=1;@3z:=1;@4w:=1;if func()bool{return x==1}(){print(w)};for func()bool{return y==1}(){print(w)};print(func()int{return z}())}", "1 2 3")
	// Names of functions are none of variables, params of interfaces' methods are no variables.
	holdShared(t, "type I interface{m(@1x int)};func f(){};func main(){go func(){f()}();go func(@2x int){}(1)}", "")
}

// TestRows: H2 to H4: one statement behind the other.
func TestRows(t *testing.T) {
	hold(t, "@ffunc main@e(){}", told{})
	hold(t, "@ffunc main@e(){@1x:=1}", told{idle: "1"})
	hold(t, "@ffunc main@e(){@1x:=1;@2print(@ax)}", told{comes: "a:1", needed: "2:1"})
	hold(t, "@ffunc main@e(){@1x:=1;@2x=2;@3print(@ax);@4x=3}", told{comes: "a:2", needed: "3:1", idle: "1 4"})
	// A station reads ahead of setting.
	hold(t, "@ffunc main@e(){@1x:=1;@2x=@ax+@bx;@3print(@cx)}", told{comes: "a:1 b:1 c:2", needed: "2:1 3:1"})
	hold(t, "@ffunc main@e(){@1x:=1;@2x=@ax}", told{comes: "a:1", needed: "2:1", idle: "2"})
	hold(t, "@ffunc main@e(){@1x:=1;@2y:=@ax;@3x=2;@4print(@by)}", told{comes: "a:1 b:2", needed: "2:1 3:2 4:2", idle: "3"})
	// Two variables of one name.
	hold(t, "@ffunc main@e(){@1x:=1;@2if true{@3x:=@ax;@4x=@bx;@5print(@cx)};@6print(@dx)}", told{
		comes: "a:1 b:3 c:4 d:1", needed: "2:1 3:1 4:13 5:13 6:1"})
	hold(t, "@ffunc main@e(){@1x:=1;@2if true{@3x=2};@4print(@ax)}", told{comes: "a:13", needed: "2:1 4:1"})
	// Nobody needs what is set ahead of a panic, or of a select without cases.
	hold(t, "@ffunc main@e(){@1x:=1;@2x=2;@3panic(3);@4print(x)}", told{idle: "1 2"})
	hold(t, "@ffunc main@e(){@1x:=1;@2select{};@3print(x)}", told{idle: "1"})
	hold(t, "@ffunc main@e(){@1x:=1;@2panic(@ax)}", told{comes: "a:1", needed: "2:1"})
	hold(t, "@ffunc main@e(){@1x:=1;@2return;@3x=2;@4print(x)}", told{idle: "1"})
}

// TestReads: H2, H3: each statement reads what stands in it. A name that begins a statement has that one's sign.
func TestReads(t *testing.T) {
	hold(t, "@ffunc main@e(){@1c:=make(chan int);@2c<-1;@3<-@bc;@4close(@dc)}", told{comes: "2:1 b:1 d:1", needed: "2:1 3:1 4:1"})
	hold(t, "func g(@px int,@qy int){};@ffunc main@e(){@1h:=g;@2x:=1;@3go @ah(@bx,3);@4h(1,@dx)}", told{
		comes: "4:1 a:1 b:2 d:2", needed: "2:1 3:12 4:12"})
	// A field is no variable: what stands ahead of its dot is read.
	hold(t, "type A struct{n int;a *A};@ffunc main@e(){@1p:=new(A);@2x:=1;@3p.n=@bx;@4p.a.n=2;@5p=@dp.a;@6p=nil}", told{
		comes: "3:1 4:1 b:2 d:1", needed: "2:1 3:12 4:1 5:1", idle: "5 6"})
	hold(t, "type A struct{n int};type I interface{};@ffunc f@e(@pi I)int{@1return @ai.(*A).n};func main(){}", told{comes: "a:p", needed: "1:p"})
	hold(t, "@ffunc f@e(@px int,@qb bool)bool{@1return !@bb&&-@ax<2||@cx==(@dx)};func main(){}", told{comes: "a:p b:q c:p d:p", needed: "1:pq"})
	// Names of functions are read of no variable.
	hold(t, "func g(){};@ffunc main@e(){@1g();@2h:=g;@3h()}", told{comes: "3:2", needed: "3:2"})
	// Both sides of && and || are read, and conditions decide nothing.
	hold(t, "@ffunc main@e(){@1x:=true;@2if false&&@ax{@3x=false};@4print(@bx)}", told{comes: "a:1 b:13", needed: "2:1 4:1"})
	hold(t, "@ffunc main@e(){@1x:=1;@2if true{@3x=2}else{@4print(@ax)};@5print(@bx)}", told{comes: "a:1 b:13", needed: "2:1 4:1 5:1"})
}

// TestIf: H2 to H4: ways that come together.
func TestIf(t *testing.T) {
	hold(t, "@ffunc main@e(){@1x:=1;@2if @ax<2{@3x=2}else{@4x=3};@5print(@bx)}", told{comes: "a:1 b:34", needed: "2:1 5:1"})
	hold(t, "@ffunc main@e(){@1x:=1;@2if true{@3x=2}else{@4x=3};@5print(@bx)}", told{comes: "b:34", needed: "5:1", idle: "1"})
	hold(t, "@ffunc main@e(){@1x:=1;@2if true{@3x=2}else @4if true{@5x=3};@6print(@ax)}", told{comes: "a:135", needed: "2:1 4:1 6:1"})
	hold(t, "@ffunc main@e(){@1x:=1;@2if true{@3x=2}else @4if @ax==1{@5x=3}else{@6x=4;@7return};@8print(@bx)}", told{
		comes: "a:1 b:35", needed: "2:1 4:1 8:1", idle: "6"})
	hold(t, "@ffunc main@e(){@1x:=1;@2if true{@3x=2;@4return};@5print(@ax)}", told{comes: "a:1", needed: "2:1 5:1", idle: "3"})
	hold(t, "@ffunc main@e(){@1x:=1;@2if true{}else{@3x=2};@4print(@ax)}", told{comes: "a:13", needed: "2:1 4:1"})
	// The same name in both parts: these are two variables.
	hold(t, "@ffunc main@e(){@1if true{@2x:=1;@3print(@ax)}else{@4x:=2;@5print(@bx)}}", told{comes: "a:2 b:4", needed: "3:2 5:4"})
}

// TestFor: H2 to H4: rounds.
func TestFor(t *testing.T) {
	hold(t, "@ffunc main@e(){@1x:=1;@2for @ax<3{@3x=@bx+1}}", told{comes: "a:13 b:13", needed: "2:1 3:1"})
	hold(t, "@ffunc main@e(){@1x:=1;@2for true{@3print(@ax);@4x=2}}", told{comes: "a:14", needed: "2:1 3:1"})
	hold(t, "@ffunc main@e(){@1x:=1;@2for true{@4x=2;@3print(@ax)}}", told{comes: "a:4", needed: "3:1", idle: "1"})
	// What is made anew in each round is not needed ahead of that.
	hold(t, "@ffunc main@e(){@1for true{@2x:=1;@3print(@ax);@4x=2}}", told{comes: "a:2", needed: "3:2", idle: "4"})
	hold(t, "@ffunc main@e(){@1for true{@2x:=1;@3for @ax<2{@4x=@bx+1};@5print(@cx)}}", told{comes: "a:24 b:24 c:24", needed: "3:2 4:2 5:2"})
	hold(t, "@ffunc main@e(){@1x:=0;@2for true{@3x:=@ax;@4x=@bx}}", told{comes: "a:1 b:3", needed: "2:1 3:1 4:13", idle: "4"})
	// A break goes behind, a loop need not be gone into.
	hold(t, "@ffunc main@e(){@1x:=1;@2for true{@3x=2;@4break};@5print(@ax)}", told{comes: "a:13", needed: "2:1 4:1 5:1"})
	hold(t, "@ffunc main@e(){@1x:=1;@2for true{@3x=2;@4if true{@5x=3;@6break};@7x=4};@8print(@ax)}", told{
		comes: "a:157", needed: "2:1 6:1 8:1", idle: "3"})
	hold(t, "@ffunc main@e(){@1x:=1;@2for true{@3for true{@4x=2;@5break};@6print(@ax)};@7print(@bx)}", told{
		comes: "a:14 b:14", needed: "2:1 3:1 5:1 6:1 7:1"})
	hold(t, "@ffunc main@e(){@1x:=1;@2for true{@3x=2;@4return};@5print(@ax)}", told{comes: "a:1", needed: "2:1 5:1", idle: "3"})
	// An empty loop.
	hold(t, "@ffunc main@e(){@1x:=1;@2for @ax<2{};@3print(@bx)}", told{comes: "a:1 b:1", needed: "2:1 3:1"})
	hold(t, "@ffunc main@e(){@1x:=1;@2for true{};@3x=2}", told{idle: "1 3"})
	// Through many loops.
	hold(t, "@ffunc main@e(){@1x:=1;@2for true{@3for true{@4for true{@5x=2}}};@6print(@ax)}", told{comes: "a:15", needed: "2:1 3:1 4:1 6:1"})
	hold(t, "@ffunc main@e(){@1x:=1;@2y:=1;@3for true{@4print(@ay);@5y=@bx;@6x=3}}", told{comes: "a:25 b:16", needed: "2:1 3:12 4:12 5:1 6:2"})
}

// TestUnreached: H2: names in stations that are not reached read nothing that is told; what is set there comes to where edges lead.
func TestUnreached(t *testing.T) {
	hold(t, "@ffunc main@e(){@1x:=1;@2for true{@3break;@4x=2};@5print(@ax)}", told{comes: "a:14", needed: "2:1 3:1 5:1"})
	hold(t, "@ffunc main@e(){@1x:=1;@2if true{@3return;@4x=2};@5print(@ax)}", told{comes: "a:14", needed: "2:1 5:1"})
	hold(t, "@ffunc main@e(){@1x:=1;@2if true{@3return;@4x=2;@5x=3;@6return};@7print(@ax)}", told{comes: "a:1", needed: "2:1 7:1"})
	// What is read there alone is not needed.
	hold(t, "@ffunc main@e(){@1x:=1;@2for true{@3break;@4print(x)}}", told{idle: "1"})
	// It belongs to its own station, also if no edge is at it: so the loop does not read it.
	hold(t, "@ffunc main@e(){@1x:=1;@2for true{@3break;@4panic(x)}}", told{idle: "1"})
	hold(t, "@ffunc main@e(){@1c:=make(chan int);@2for true{@3return;@4select{case <-c:panic(1)}}}", told{idle: "1"})
	// A literal is from itself, also where nobody comes.
	hold(t, "@ffunc main@e(){@1return;@2x:=@gfunc(@px int)int{@3y:=@ax;@4return @by}}", told{comes: "a:p b:3", needed: "3:p 4:3"})
}

// TestSelect: H2 to H4: what is received is set at the edge to the case's block; channels and values are read by the select.
func TestSelect(t *testing.T) {
	hold(t, "@ffunc main@e(){@1c:=make(chan int);@2select{@3case x:=<-@ac:@4print(@bx)}}", told{comes: "a:1 b:3", needed: "2:1 4:3"})
	hold(t, "@ffunc main@e(){@1c:=make(chan int);@2x:=1;@3select{@4case x:=<-@ac:@5print(@bx);@6case @cc<-@dx:@7print(@gx);@8default:@9print(@hx)}}", told{
		comes: "a:1 b:4 c:1 d:2 g:2 h:2", needed: "2:1 3:12 5:4 7:2 9:2"})
	// Each round receives anew: what is set in the case does not come to its beginning.
	hold(t, "@ffunc main@e(){@1c:=make(chan int);@2for true{@3select{@4case x:=<-@ac:@5print(@bx);@6x=2}}}", told{
		comes: "a:1 b:4", needed: "2:1 3:1 5:14 6:1", idle: "6"})
	// A block that begins with a loop: rounds lead to the loop, not over the edge.
	hold(t, "@ffunc main@e(){@1c:=make(chan int);@2for true{@3select{@4case x:=<-@ac:@5for @bx<2{@6x=@dx+1}}}}", told{
		comes: "a:1 b:46 d:46", needed: "2:1 3:1 5:14 6:14"})
	// Two cases of one name, one behind the other, and cases that have none or do nothing.
	hold(t, "@ffunc main@e(){@1c:=make(chan int);@2select{@3case x:=<-@ac:@4x=@bx;@5print(@dx);@6case x:=<-@gc:@7print(@hx);case x:=<-@ic:case <-@jc:@8print(1)}}", told{
		comes: "a:1 b:3 d:4 g:1 h:6 i:1 j:1", needed: "2:1 4:3 5:3 7:6"})
	hold(t, "@ffunc main@e(){@1c:=make(chan int);@2x:=1;@3select{case x:=<-@ac:case <-@bc:@4x=2};@5print(@dx)}", told{
		comes: "a:1 b:1 d:24", needed: "2:1 3:12 5:2"})
	// A case sets its own variable alone.
	hold(t, "@ffunc main@e(){@1c:=make(chan int);@2x:=1;@3select{@4case y:=<-@ac:@5print(@bx+@dy);@6case y:=<-@gc:@7x=@hy};@8print(@ix)}", told{
		comes: "a:1 b:2 d:4 g:1 h:6 i:27", needed: "2:1 3:12 5:24 7:6 8:2"})
	// A select within a case.
	hold(t, "@ffunc main@e(){@1c:=make(chan int);@2select{@3case x:=<-@ac:@4select{@5case y:=<-@bc:@6print(@dx);@7case x:=<-@gc:@8print(@hx)}}}", told{
		comes: "a:1 b:1 d:3 g:1 h:7", needed: "2:1 4:13 6:3 8:7"})
}

// TestFunctions: H2, H3: params are set where the function begins; each function, method and literal is by itself.
func TestFunctions(t *testing.T) {
	hold(t, "@ffunc f@e(@pa int,@qb int){@1print(@aa)};func main(){}", told{comes: "a:p", needed: "1:p"})
	hold(t, "@ffunc f@e(@pa int,@qb int){@1b=2;@2for true{@3print(@aa+@bb);@4a=3}};func main(){}", told{
		comes: "a:4p b:1", needed: "1:p 2:pq 3:pq 4:q"})
	hold(t, "type A struct{n int};@ffunc(@pa *A)m@e(@qb int)int{@1if @aa==nil{@2return @bb};@3b=1;@4return @ca.n};func main(){}", told{
		comes: "a:p b:q c:p", needed: "1:pq 2:q 3:p 4:p", idle: "3"})
	// A literal's variables are none of those of the function around.
	hold(t, "@ffunc main@e(){@1x:=1;@2g:=@lfunc@k(@px int)int{@3x=@ax+1;@4return @bx};@5print(@cg(@dx))}", told{
		comes: "a:p b:3 c:2 d:1", needed: "2:1 3:p 4:p 5:12"})
	// A station around a literal does not read what stands in that one.
	hold(t, "@ffunc main@e(){@1x:=1;@2print(@lfunc@k(@px int)int{@3y:=2;@4return @ax+@by}(@cx))}", told{
		comes: "a:p b:3 c:1", needed: "2:1 3:p 4:3p"})
	hold(t, "@ffunc main@e(){@1for @lfunc@k()bool{@2x:=1;@3for @ax<2{@4x=@bx+1};@5return true}(){}}", told{comes: "a:24 b:24", needed: "3:2 4:2"})
	// Shared variables are told of nowhere.
	hold(t, "@ffunc main@e(){@1x:=1;@2x=2;@3print(x);go @lfunc@k(){@4x=3;@5print(x)}()}", told{shared: "1"})
	hold(t, "@ffunc f@e(@pa int){@1a=1;@2print(a);@3g:=@lfunc@k()int{@4return a};@5print(@bg())};func main(){}", told{shared: "p", comes: "b:3", needed: "5:3"})
	hold(t, "@ffunc main@e(){@1c:=make(chan int);@2select{@3case x:=<-@ac:@4print(x);go @lfunc@k(){@5x=3}()}}", told{shared: "3", comes: "a:1", needed: "2:1"})
}

// TestExample: the numbers of nodes, not just the marks.
func TestExample(t *testing.T) {
	// nodes: 0 int, 1 param, 2 sig, 3 number, 4 define, 5 name (left), 6, 7 names, 8 sum, 9 assign, 10 name, 11 print, 12 block, 13 func
	text := "func f(a int){x:=1;x=x+a;print(x)};func main(){}"
	shared, _ := Shared(text)
	comes, _ := Comes(text)
	needed, _ := Needed(text)
	idle, _ := Idle("func main(){x:=1;x=2}")
	if len(shared) != 18 || slices.Max(shared) != 0 {
		t.Error(shared)
	}
	if got := fmt.Sprint(comes); got != "[[] [] [] [] [] [] [4] [1] [] [] [9] [] [] [] [] [] [] []]" {
		t.Error(got)
	}
	if got := fmt.Sprint(needed); got != "[[] [] [] [] [1] [] [] [] [] [1 4] [] [4] [] [] [] [] [] []]" {
		t.Error(got)
	}
	if !slices.Equal(idle, []int{2, 5}) {
		t.Error(idle)
	}
}

// TestFaults: all answer Check's fault, and nothing else.
func TestFaults(t *testing.T) {
	for _, x := range []struct {
		text string
		code api.Errno
	}{
		{"", api.ErrMain},
		{strings.Repeat(" ", api.MaxText+1), api.ErrSize},
		{"func main(){print(\xff)}", api.ErrRune},
		{"func main(){", api.ErrSyntax},
		{"func main(){print" + strings.Repeat("(", 40) + "1" + strings.Repeat(")", 40) + "}", api.ErrDeep},
		{"func main(){" + strings.Repeat("print(1);", 600) + "}", api.ErrFull},
		{"func main(){print(x)}", api.ErrName},
		{"func main(){x:=x}", api.ErrName},
		{"func main(){x:=1;x:=2}", api.ErrTwice},
		{"func f(a int,a int){};func main(){}", api.ErrTwice},
		{"func main(){x:=1;x=true}", api.ErrType},
		{"func main(){main=main}", api.ErrType},
		{"func f(){};func main(){f(1)}", api.ErrCount},
		{"func f(){}", api.ErrMain},
		{"func main(){c:=make(chan int,9);<-c}", api.ErrRange},
	} {
		_, want := check.Check(x.text)
		if want.Code != x.code {
			t.Fatalf("%q: %v", x.text, want)
		}
		shared, first := Shared(x.text)
		comes, second := Comes(x.text)
		needed, third := Needed(x.text)
		idle, fourth := Idle(x.text)
		if first != want || second != want || third != want || fourth != want {
			t.Errorf("%q: %v, %v, %v, %v, not %v", x.text, first, second, third, fourth, want)
		}
		if len(shared)+len(comes)+len(needed)+len(idle) > 0 {
			t.Errorf("%q: %v, %v, %v, %v", x.text, shared, comes, needed, idle)
		}
	}
}

// TestNewMemory: P3: what is answered is not kept, no two lists share memory, and the same is answered again.
func TestNewMemory(t *testing.T) {
	text := "func f(a int,b int){x:=1;for x<a{x=x+x+x;if a==b{x=3}else{print(x+x)};y:=x;y=y+a;c:=make(chan int);select{case z:=<-c:print(z+z);z=1;case c<-x:}};g:=func(){print(b)};x=2};func main(){}"
	ask := func() string {
		shared, _ := Shared(text)
		comes, _ := Comes(text)
		needed, _ := Needed(text)
		idle, _ := Idle(text)
		all := fmt.Sprint(shared, comes, needed, idle)
		for _, list := range slices.Concat([][]int{shared, idle}, comes, needed) {
			list = list[:cap(list)]
			for i := range list {
				if list[i] == -9 {
					t.Fatal("two lists share memory")
				}
				list[i] = -9
			}
		}
		return all
	}
	want := ask()
	for range 50 {
		if got := ask(); got != want {
			t.Fatalf("%s, not %s", got, want)
		}
	}
}

// names answers as many names, each another one.
func names(many int) []string {
	var out []string
	for i := range many {
		out = append(out, "_"+strconv.FormatInt(int64(i), 36))
	}
	return out
}

// TestGreat: P1: programs as great, and as deep, as may be.
func TestGreat(t *testing.T) {
	deep := api.MaxNest - 2 // beside main's block and brackets
	// Each definition is two nodes; the function, its sig, its block and the program are the others.
	many := (api.MaxNodes - 4) / 2
	rows := "func main(){" + strings.Join(names(many), ":=1;") + ":=1}"
	// All is read where all loops are around it.
	all := names(250)
	reads := "func main(){" + strings.Join(all, ":=1;") + ":=1;" + strings.Repeat("for true{", deep) + "print(" + strings.Join(all, ");print(") + ")" + strings.Repeat("}", deep) + "}"
	// All that is set comes to all that is read.
	sets := "func main(){x:=1;" + strings.Repeat("for x<x{", deep) + strings.Repeat("if true{x=2};", 150) + strings.Repeat("}", deep) + "}"
	for _, x := range []struct {
		text                string
		comes, needed, idle int
	}{
		{rows, 0, 0, many},
		{reads, 250, 250*249/2 + 250*(deep+250), 0},
		// The 150 ifs pass it on; what is set in them is read by the loop behind, or set again.
		{sets, 2 * deep * 151, deep + 150, 0},
	} {
		comes, fault := Comes(x.text)
		needed, _ := Needed(x.text)
		idle, _ := Idle(x.text)
		if fault.Code != api.OK || len(slices.Concat(comes...)) != x.comes || len(slices.Concat(needed...)) != x.needed || len(idle) != x.idle {
			t.Errorf("%.60q: %v: %d comes, %d needed, %d idle, not %v", x.text, fault, len(slices.Concat(comes...)), len(slices.Concat(needed...)), len(idle), x)
		}
	}
}

// TestStations: H2, H3: what is told of texts is told of names and of reached stations alone.
func TestStations(t *testing.T) {
	text := "type A struct{n int};func(a *A)m(b int)int{for b<a.n{a.n=b;b=b+1;if b==3{break};return b;print(b)};return 1};func main(){x:=new(A);print(x.m(1));go func(x int){print(x)}(x.n)}"
	nodes, fault := syntax.Parse(text)
	reached, _ := flow.Reached(text)
	comes, _ := Comes(text)
	needed, _ := Needed(text)
	if fault.Code != api.OK {
		t.Fatal(fault)
	}
	for number, n := range nodes {
		if len(comes[number]) > 0 && n.Kind != api.KName {
			t.Error("comes to what is no name:", number, comes[number])
		}
		if len(needed[number]) > 0 && reached[number] == 0 {
			t.Error("needed by what is no reached station:", number, needed[number])
		}
	}
}
