package flow

import (
	"fmt"
	"slices"
	"strings"
	"testing"

	"ravel/api"
	"ravel/check"
	"ravel/syntax"
)

// unmark takes the marks (@ and a sign) out of a text, and answers which ones stood ahead of which byte.
func unmark(marked string) (string, map[int]string) {
	var text strings.Builder
	marks := map[int]string{}
	for i := 0; i < len(marked); i++ {
		if marked[i] == '@' {
			i++
			marks[text.Len()] = marked[i : i+1]
			continue
		}
		text.WriteByte(marked[i])
	}
	return text.String(), marks
}

// told has what is told of a marked text, by its marks: pairs without a blank between, in the order of their signs.
type told struct {
	edges, reached, overs, rounds string
}

func sorted(words []string) string {
	slices.Sort(words)
	return strings.Join(words, " ")
}

func pairs(list [][2]int, name func(int) string) string {
	var words []string
	for _, pair := range list {
		words = append(words, name(pair[0])+name(pair[1]))
	}
	return sorted(words)
}

// tell asks all four faces of a marked text.
func tell(t *testing.T, marked string) told {
	t.Helper()
	text, marks := unmark(marked)
	nodes, fault := syntax.Parse(text)
	edges, first := Edges(text)
	reached, second := Reached(text)
	overs, third := Over(text)
	rounds, fourth := Rounds(text)
	if fault.Code+first.Code+second.Code+third.Code+fourth.Code != api.OK || len(reached) != len(nodes) || len(overs) != len(nodes) {
		t.Fatalf("%q: %v, %v, %v, %v, %v; %d, %d", text, fault, first, second, third, fourth, len(reached), len(overs))
	}
	name := func(number int) string {
		n := nodes[number]
		if mark := marks[n.At]; mark != "" && (check.IsFunction(n.Kind) || n.Kind == api.KSig || n.Kind > api.KBlock && n.Kind <= api.KPrint) {
			return mark
		}
		return fmt.Sprintf("<%d>", number)
	}
	var ones []string
	var over [][2]int
	for number := range nodes {
		switch reached[number] {
		case 1:
			ones = append(ones, name(number))
		case 0:
		default:
			t.Errorf("%q: %d is reached %d times", text, number, reached[number])
		}
		if overs[number] != -1 {
			over = append(over, [2]int{overs[number], number})
		}
	}
	isRising(t, text, edges)
	isRising(t, text, rounds)
	return told{pairs(edges, name), sorted(ones), pairs(over, name), pairs(rounds, name)}
}

func isRising(t *testing.T, text string, list [][2]int) {
	t.Helper()
	for i := 1; i < len(list); i++ {
		a, b := list[i-1], list[i]
		if a[0] > b[0] || a[0] == b[0] && a[1] >= b[1] {
			t.Errorf("%q: %v is not rising", text, list)
		}
	}
}

// hold holds what is told of marked texts: the function is f, its end e, statements are numbers or other signs.
func hold(t *testing.T, marked string, want told) {
	t.Helper()
	if got := tell(t, marked); got != want {
		t.Errorf("%q:\n%q\nnot\n%q", marked, got, want)
	}
}

// TestRows: G1 to G3: one statement behind the other.
func TestRows(t *testing.T) {
	hold(t, "@ffunc main@e(){}", told{"fe", "e f", "fe", ""})
	hold(t, "@ffunc main@e(){@1print(1)}", told{"1e f1", "1 e f", "1e f1", ""})
	hold(t, "@ffunc main@e(){@1c:=make(chan int);@2c=c;@3<-c;@4c<-1;@5go main();@6close(c);@7print(1);@8main()}", told{
		"12 23 34 45 56 67 78 8e f1", "1 2 3 4 5 6 7 8 e f", "12 23 34 45 56 67 78 8e f1", ""})
	// Nobody goes on from a panic or a return to what is behind; but from there one goes on.
	hold(t, "@ffunc main@e(){@1panic(1)}", told{"f1", "1 f", "f1", ""})
	hold(t, "@ffunc main@e(){@1print(1);@2panic(1);@3print(1);@4print(2)}", told{"12 34 4e f1", "1 2 f", "12 f1", ""})
	hold(t, "@ffunc main@e(){@1return}", told{"1e f1", "1 e f", "1e f1", ""})
	hold(t, "@ffunc main@e(){@1return;@2print(2);@3return;@4panic(3);@5return}", told{"1e 23 3e 5e f1", "1 e f", "1e f1", ""})
	hold(t, "@ffunc main@e(){};@gfunc f@h(x int, y bool) int{@1return 1}", told{"1h fe g1", "1 e f g h", "1h fe g1", ""})
}

// TestIf: G1 to G3: parts of a KIf.
func TestIf(t *testing.T) {
	hold(t, "@ffunc main@e(){@1if true{@2print(1)};@3print(2)}", told{"12 13 23 3e f1", "1 2 3 e f", "12 13 3e f1", ""})
	hold(t, "@ffunc main@e(){@1if true{@2print(1)}}", told{"12 1e 2e f1", "1 2 e f", "12 1e f1", ""})
	hold(t, "@ffunc main@e(){@1if true{@2print(1);@3print(1)}else{@4print(2);@5print(2)};@6print(3)}", told{
		"12 14 23 36 45 56 6e f1", "1 2 3 4 5 6 e f", "12 14 16 23 45 6e f1", ""})
	// Conditions decide nothing.
	hold(t, "@ffunc main@e(){@1if false{@2print(1)}else{@3print(2)}}", told{"12 13 2e 3e f1", "1 2 3 e f", "12 13 1e f1", ""})
	// Empty blocks.
	hold(t, "@ffunc main@e(){@1if true{};@2print(1)}", told{"12 2e f1", "1 2 e f", "12 2e f1", ""})
	hold(t, "@ffunc main@e(){@1if true{}else{};@2print(1)}", told{"12 2e f1", "1 2 e f", "12 2e f1", ""})
	hold(t, "@ffunc main@e(){@1if true{}else{}}", told{"1e f1", "1 e f", "1e f1", ""})
	hold(t, "@ffunc main@e(){@1if true{}else{@2print(1)};@3print(2)}", told{"12 13 23 3e f1", "1 2 3 e f", "12 13 3e f1", ""})
	hold(t, "@ffunc main@e(){@1if true{@2print(1)}else{};@3print(2)}", told{"12 13 23 3e f1", "1 2 3 e f", "12 13 3e f1", ""})
	// An if behind an else: behind it is what is behind the first one.
	hold(t, "@ffunc main@e(){@1if true{@2print(1)}else @3if true{@4print(2)}else @5if true{@6print(3)}else{@7print(4)};@8print(5)}", told{
		"12 13 28 34 35 48 56 57 68 78 8e f1", "1 2 3 4 5 6 7 8 e f", "12 13 18 34 35 56 57 8e f1", ""})
	hold(t, "@ffunc main@e(){@1if true{@2return}else @3if true{};@4print(5)}", told{"12 13 2e 34 4e f1", "1 2 3 4 e f", "12 13 1e 34 f1", ""})
	hold(t, "@ffunc main@e(){@1if true{}else @2if true{@3panic(1)};}", told{"12 1e 23 2e f1", "1 2 3 e f", "12 1e 23 f1", ""})
	// From one part, or from both, one does not come behind it.
	hold(t, "@ffunc main@e(){@1if true{@2panic(1)}else{@3print(1)};@4print(2)}", told{"12 13 34 4e f1", "1 2 3 4 e f", "12 13 34 4e f1", ""})
	hold(t, "@ffunc main@e(){@1if true{@2panic(1)}else{@3return};@4print(2)}", told{"12 13 3e 4e f1", "1 2 3 e f", "12 13 3e f1", ""})
	hold(t, "@ffunc main@e(){@1if true{@2return}else{@3return};@4if true{@5print(2)}}", told{"12 13 2e 3e 45 4e 5e f1", "1 2 3 e f", "12 13 1e f1", ""})
	// One if in another one, at its end and not.
	hold(t, "@ffunc main@e(){@1if true{@2if true{@3print(1)}}else{@4if true{};@5print(2)};@6print(3)}", told{
		"12 14 23 26 36 45 56 6e f1", "1 2 3 4 5 6 e f", "12 14 16 23 45 6e f1", ""})
}

// TestFor: G1 to G4: loops and their ends.
func TestFor(t *testing.T) {
	hold(t, "@ffunc main@e(){@1for true{}}", told{"11 1e f1", "1 e f", "1e f1", "11"})
	hold(t, "@ffunc main@e(){@1for false{@2print(1);@3print(2)};@4print(3)}", told{"12 14 23 31 4e f1", "1 2 3 4 e f", "12 14 23 4e f1", "31"})
	hold(t, "@ffunc main@e(){@0print(0);@1for true{@2break};@3print(3)}", told{"01 12 13 23 3e f0", "0 1 2 3 e f", "01 12 13 3e f0", ""})
	hold(t, "@ffunc main@e(){@1for true{@2return}}", told{"12 1e 2e f1", "1 2 e f", "12 1e f1", ""})
	hold(t, "@ffunc main@e(){@1for true{@2panic(1)}}", told{"12 1e f1", "1 2 e f", "12 1e f1", ""})
	// What stands behind a break: from there one comes to the loop.
	hold(t, "@ffunc main@e(){@1for true{@2break;@3print(1);@4print(2)}}", told{"12 1e 2e 34 41 f1", "1 2 e f", "12 1e f1", ""})
	// What is last in the block may be many.
	hold(t, "@ffunc main@e(){@1for true{@2if true{@3print(1)}else @4if true{@5print(2)}};@6print(3)}", told{
		"12 16 23 24 31 41 45 51 6e f1", "1 2 3 4 5 6 e f", "12 16 23 24 45 6e f1", "31 41 51"})
	hold(t, "@ffunc main@e(){@1for true{@2if true{}}}", told{"12 1e 21 f1", "1 2 e f", "12 1e f1", "21"})
	hold(t, "@ffunc main@e(){@1for true{@2if true{@3break}else{@4return}};@5print(1)}", told{
		"12 15 23 24 35 4e 5e f1", "1 2 3 4 5 e f", "12 15 1e 23 24 f1", ""})
	// Loops in loops.
	hold(t, "@ffunc main@e(){@1for true{@2for true{@3for true{}}}}", told{"12 1e 21 23 32 33 f1", "1 2 3 e f", "12 1e 23 f1", "21 32 33"})
	hold(t, "@ffunc main@e(){@1for true{@2for true{@3break};@4break};@5print(1)}", told{"12 15 23 24 34 45 5e f1", "1 2 3 4 5 e f", "12 15 23 24 5e f1", ""})
	hold(t, "@ffunc main@e(){@1for true{@2for true{@3break}}}", told{"12 1e 21 23 31 f1", "1 2 3 e f", "12 1e 23 f1", "21 31"})
	hold(t, "@ffunc main@e(){@1for true{@2for true{@3if true{@4break};@5print(5)};@6if true{@7break}};@8print(8)}", told{
		"12 18 23 26 34 35 46 52 61 67 78 8e f1", "1 2 3 4 5 6 7 8 e f", "12 18 23 26 34 35 67 8e f1", "52 61"})
	// One loop behind the other.
	hold(t, "@ffunc main@e(){@1for true{@2break};@3for true{};@4for true{@5print(1)}}", told{
		"12 13 23 33 34 45 4e 54 f1", "1 2 3 4 5 e f", "12 13 34 45 4e f1", "33 54"})
	// A loop that is not reached has edges, but nothing is over it.
	hold(t, "@ffunc main@e(){@1return;@2for true{@3print(1)};@4for true{}}", told{"1e 23 24 32 44 4e f1", "1 e f", "1e f1", ""})
	hold(t, "@ffunc main@e(){@1for true{@2break;@3for true{@4if true{@5break}}}}", told{"12 1e 2e 31 34 43 45 51 f1", "1 2 e f", "12 1e f1", ""})
	// What is not reached is left out where ways come together.
	hold(t, "@ffunc main@e(){@1if true{@2return;@3print(1)}else{@4print(2)};@5print(3)}", told{"12 14 2e 35 45 5e f1", "1 2 4 5 e f", "12 14 1e 45 f1", ""})
}

// TestSelect: G1 to G4: cases.
func TestSelect(t *testing.T) {
	hold(t, "@ffunc main@e(){@1select{};@2print(1)}", told{"2e f1", "1 f", "f1", ""})
	hold(t, "@ffunc main@e(){@1select{}}", told{"f1", "1 f", "f1", ""})
	hold(t, "@ffunc main@e(){@1select{default:};@2print(1)}", told{"12 2e f1", "1 2 e f", "12 2e f1", ""})
	hold(t, "@ffunc main@e(){@1c:=make(chan int);@2select{case <-c:@3print(1);@4print(2);case x:=<-c:@5print(x);case c<-1:@6print(3);default:@7print(4)};@8print(5)}", told{
		"12 23 25 26 27 34 48 58 68 78 8e f1", "1 2 3 4 5 6 7 8 e f", "12 23 25 26 27 28 34 8e f1", ""})
	// Without a default one does not go on behind it by itself.
	hold(t, "@ffunc main@e(){@1c:=make(chan int);@2select{case <-c:@3return};@4print(5)}", told{"12 23 3e 4e f1", "1 2 3 e f", "12 23 3e f1", ""})
	// Empty cases.
	hold(t, "@ffunc main@e(){@1c:=make(chan int);@2select{case x:=<-c:case c<-1:}}", told{"12 2e f1", "1 2 e f", "12 2e f1", ""})
	hold(t, "@ffunc main@e(){@1c:=make(chan int);@2select{case <-c:case c<-1:@3panic(1)};@4print(1)}", told{"12 23 24 4e f1", "1 2 3 4 e f", "12 23 24 4e f1", ""})
	// In a loop: a break is the loop's.
	hold(t, "@ffunc main@e(){@1c:=make(chan int);@2for true{@3select{case <-c:case c<-1:@4break;case x:=<-c:@5print(x);default:@6for true{@7break}}};@8print(1)}", told{
		"12 23 28 32 34 35 36 48 52 62 67 72 8e f1", "1 2 3 4 5 6 7 8 e f", "12 23 28 34 35 36 67 8e f1", "32 52 62 72"})
	// A case's block begins with a loop: one comes to it by two edges.
	hold(t, "@ffunc main@e(){@1select{default:@2for true{@3select{default:@4for true{}}}}}", told{
		"12 23 2e 34 42 44 f1", "1 2 3 4 e f", "12 23 2e 34 f1", "42 44"})
}

// TestFunctions: G1, G2: each function, method and literal has stations of its own.
func TestFunctions(t *testing.T) {
	hold(t, "type A struct{x int};type I interface{m();n(x int) int};@gfunc(a *A)m@h(x int)int{@1return x};@ffunc main@e(){@2print(1)}", told{"1h 2e f2 g1", "1 2 e f g h", "1h 2e f2 g1", ""})
	hold(t, "@ffunc main@e(){@1x:=@gfunc@h(){@2print(2);@3return;@4print(3)};@5x()}", told{"15 23 3h 4h 5e f1 g2", "1 2 3 5 e f g h", "15 23 3h 5e f1 g2", ""})
	// A literal may stand anywhere, also where it is not reached: then it is from itself.
	hold(t, "@ffunc main@e(){@1return;@2print(@gfunc@h()int{@3return 1}())}", told{"1e 2e 3h f1 g3", "1 3 e f g h", "1e 3h f1 g3", ""})
	hold(t, "@ffunc main@e(){@1if @gfunc@h()bool{@2return true}(){@3print(1)};@4for @ifunc@j()bool{}(){@5break}}", told{
		"13 14 2h 34 45 4e 5e f1 g2 ij", "1 2 3 4 5 e f g h i j", "13 14 2h 45 4e f1 g2 ij", ""})
	hold(t, "@ffunc main@e(){@1c:=make(chan int);@2select{case @gfunc@h()chan int{@3return nil}()<-@ifunc@j()int{@4panic(1)}():@5print(1)}}", told{
		"12 25 3h 5e f1 g3 i4", "1 2 3 4 5 e f g h i", "12 25 3h 5e f1 g3 i4", ""})
	// One in the other; loops of the one are none of the other.
	hold(t, "@ffunc main@e(){@1for true{@2go @gfunc@h(){@3for true{@4x:=@ifunc@j(){@5for true{@6return}};@7x();@8break}}()}}", told{
		"12 1e 21 34 3h 47 56 5j 6j 78 8h f1 g3 i5", "1 2 3 4 5 6 7 8 e f g h i j", "12 1e 34 3h 47 56 5j 78 f1 g3 i5", "21"})
}

// TestExample: the numbers of nodes, not just the marks.
func TestExample(t *testing.T) {
	text := "func main(){x:=1;for x<2{break}}"
	edges, _ := Edges(text)
	reached, _ := Reached(text)
	over, _ := Over(text)
	if !slices.Equal(edges, [][2]int{{2, 8}, {6, 0}, {8, 0}, {8, 6}, {10, 2}}) {
		t.Error(edges)
	}
	if !slices.Equal(reached, []int{1, 0, 1, 0, 0, 0, 1, 0, 1, 0, 1, 0}) {
		t.Error(reached)
	}
	if !slices.Equal(over, []int{8, -1, 10, -1, -1, -1, 8, -1, 2, -1, -1, -1}) {
		t.Error(over)
	}
	rounds, _ := Rounds("func main(){for true{print(1)};for true{}}")
	if !slices.Equal(rounds, [][2]int{{3, 5}, {8, 8}}) {
		t.Error(rounds)
	}
}

// TestFaults: all answer Check's fault, and nothing else.
func TestFaults(t *testing.T) {
	for _, x := range []struct {
		text string
		code api.Errno
	}{
		{"", api.ErrMain},
		{strings.Repeat(" ", api.MaxText+1), api.ErrSize},
		{"func main(){print(\xff)}", api.ErrRune},
		{"func main(){", api.ErrSyntax},
		{"func main(){print" + strings.Repeat("(", 40) + "1" + strings.Repeat(")", 40) + "}", api.ErrDeep},
		{"func main(){" + strings.Repeat("print(1);", 600) + "}", api.ErrFull},
		{"func main(){print(x)}", api.ErrName},
		{"func main(){x:=1;x:=2}", api.ErrTwice},
		{"func main(){x:=1;x=true}", api.ErrType},
		{"func f(){};func main(){f(1)}", api.ErrCount},
		{"func main(){return 1}", api.ErrCount},
		{"func f(){}", api.ErrMain},
		{"func main(){<-make(chan int,9)}", api.ErrRange},
		{"func main(){break}", api.ErrType},
		{"func main(){for true{go func(){break}()}}", api.ErrType},
		{"func main(){select{default:break}}", api.ErrType},
	} {
		_, want := check.Check(x.text)
		if want.Code != x.code {
			t.Fatalf("%q: %v", x.text, want)
		}
		edges, first := Edges(x.text)
		reached, second := Reached(x.text)
		overs, third := Over(x.text)
		rounds, fourth := Rounds(x.text)
		if first != want || second != want || third != want || fourth != want {
			t.Errorf("%q: %v, %v, %v, %v, not %v", x.text, first, second, third, fourth, want)
		}
		if len(edges)+len(reached)+len(overs)+len(rounds) > 0 {
			t.Errorf("%q: %v, %v, %v, %v", x.text, edges, reached, overs, rounds)
		}
	}
}

// TestNewMemory: P3: what is answered is not kept, and the same is answered again.
func TestNewMemory(t *testing.T) {
	text := "func main(){x:=1;for x<2{if x==1{break}else{print(1)};for true{}};return;x=2}"
	ask := func() string {
		edges, _ := Edges(text)
		reached, _ := Reached(text)
		over, _ := Over(text)
		rounds, _ := Rounds(text)
		all := fmt.Sprint(edges, reached, over, rounds)
		for _, list := range [][][2]int{edges[:cap(edges)], rounds[:cap(rounds)]} {
			for i := range list {
				list[i] = [2]int{-9, -9}
			}
		}
		for _, list := range [][]int{reached[:cap(reached)], over[:cap(over)]} {
			for i := range list {
				list[i] = -9
			}
		}
		return all
	}
	want := ask()
	for range 50 {
		if got := ask(); got != want {
			t.Fatalf("%s, not %s", got, want)
		}
	}
}

// TestGreat: P1: programs as great, and as deep, as may be.
func TestGreat(t *testing.T) {
	// Each loop is three nodes; the function, its sig, its block and the program are the others.
	many := (api.MaxNodes - 4) / 3
	rows := "func main(){" + strings.Repeat("for true{};", many) + "}"
	deep := "func main(){" + strings.Repeat("for true{", api.MaxNest-1) + strings.Repeat("}", api.MaxNest-1) + "}"
	chain := "func main(){if true{}" + strings.Repeat("else if true{}", api.MaxNest-2) + "}"
	returns := "func main(){" + strings.Repeat("return;", api.MaxText/8) + "}"
	for _, x := range []struct {
		text                          string
		edges, reached, overs, rounds int
	}{
		{rows, 1 + 2*many, 2 + many, 1 + many, many},
		{deep, 1 + 2*(api.MaxNest-1), 1 + api.MaxNest, api.MaxNest, api.MaxNest - 1},
		{chain, 2 * (api.MaxNest - 1), 1 + api.MaxNest, api.MaxNest, 0},
		{returns, 1 + api.MaxText/8, 3, 2, 0},
	} {
		edges, fault := Edges(x.text)
		reached, _ := Reached(x.text)
		overs, _ := Over(x.text)
		rounds, _ := Rounds(x.text)
		ones, over := 0, 0
		for number := range reached {
			ones += reached[number]
			if overs[number] >= 0 {
				over++
			}
		}
		if fault.Code != api.OK || len(edges) != x.edges || ones != x.reached || over != x.overs || len(rounds) != x.rounds {
			t.Errorf("%.60q: %v: %d edges, %d reached, %d overs, %d rounds, not %v", x.text, fault, len(edges), ones, over, len(rounds), x)
		}
	}
}
