package syntax

import (
	"fmt"
	"strings"
	"testing"

	"ravel/api"
)

// tell writes nodes one by one: kind, at, num, text, kids.
func tell(nodes []api.Node) string {
	var b strings.Builder
	for i, n := range nodes {
		fmt.Fprintf(&b, "%d: %d @%d %d %q %v\n", i, n.Kind, n.At, n.Num, n.Text, n.Kids)
	}
	return b.String()
}

// node of a test: kids as a list behind the rest.
func node(kind, at, num int, text string, kids ...int) api.Node {
	return api.Node{Kind: kind, At: at, Num: num, Text: text, Kids: kids}
}

// sameNodes holds lists of nodes against each other; an empty list may be nil or not.
func sameNodes(a, b []api.Node) bool {
	return tell(a) == tell(b)
}

// bare answers nodes without their At.
func bare(nodes []api.Node) []api.Node {
	out := append([]api.Node(nil), nodes...)
	for i := range out {
		out[i].At = 0
	}
	return out
}

func TestNodesOfPrograms(t *testing.T) {
	for _, x := range []struct {
		text  string
		nodes []api.Node
	}{
		{"", []api.Node{node(api.KProgram, 0, 0, "")}},
		{" \n// a note\n\t", []api.Node{node(api.KProgram, 0, 0, "")}},
		{"func main(){print(1+2*3)}", []api.Node{
			node(api.KSig, 9, 0, ""),
			node(api.KNumber, 18, 1, ""),
			node(api.KNumber, 20, 2, ""),
			node(api.KNumber, 22, 3, ""),
			node(api.KBinary, 21, 0, "*", 2, 3),
			node(api.KBinary, 19, 0, "+", 1, 4),
			node(api.KPrint, 12, 0, "", 5),
			node(api.KBlock, 11, 0, "", 6),
			node(api.KFunc, 0, 0, "main", 0, 7),
			node(api.KProgram, 0, 0, "", 8),
		}},
		{"\n  type A struct{}\ntype B struct {a int; b*A}", []api.Node{
			node(api.KStruct, 3, 0, "A"),
			node(api.KInt, 36, 0, ""),
			node(api.KField, 34, 0, "a", 1),
			node(api.KPtr, 42, 0, "A"),
			node(api.KField, 41, 0, "b", 3),
			node(api.KStruct, 19, 0, "B", 2, 4),
			node(api.KProgram, 3, 0, "", 0, 5),
		}},
		{"type I interface{m(x bool,y I)chan int;n()}", []api.Node{
			node(api.KBool, 21, 0, ""),
			node(api.KParam, 19, 0, "x", 0),
			node(api.KNamed, 28, 0, "I"),
			node(api.KParam, 26, 0, "y", 2),
			node(api.KInt, 35, 0, ""),
			node(api.KChan, 30, 0, "", 4),
			node(api.KSig, 18, 2, "", 1, 3, 5),
			node(api.KMethodSig, 17, 0, "m", 6),
			node(api.KSig, 40, 0, ""),
			node(api.KMethodSig, 39, 0, "n", 8),
			node(api.KIface, 0, 0, "I", 7, 9),
			node(api.KProgram, 0, 0, "", 10),
		}},
		{"func (a *A) m(f func(int,*B)func()) int {}", []api.Node{
			node(api.KPtr, 8, 0, "A"),
			node(api.KParam, 6, 0, "a", 0),
			node(api.KInt, 21, 0, ""),
			node(api.KPtr, 25, 0, "B"),
			node(api.KFuncType, 28, 0, ""),
			node(api.KFuncType, 16, 2, "", 2, 3, 4),
			node(api.KParam, 14, 0, "f", 5),
			node(api.KInt, 36, 0, ""),
			node(api.KSig, 13, 1, "", 6, 7),
			node(api.KBlock, 40, 0, ""),
			node(api.KMethod, 0, 0, "m", 1, 8, 9),
			node(api.KProgram, 0, 0, "", 10),
		}},
	} {
		nodes, fault := Parse(x.text)
		if fault != (api.Fault{}) || !sameNodes(nodes, x.nodes) {
			t.Errorf("%q: %v\n%s", x.text, fault, tell(nodes))
		}
	}
}

// head is what stands ahead of the statements of TestNodesOfStatements; its KSig is node 0.
const head = "func f(){"

func TestNodesOfStatements(t *testing.T) {
	for _, x := range []struct {
		text  string
		nodes []api.Node
	}{
		{"x:=nil", []api.Node{
			node(api.KNil, 12, 0, ""),
			node(api.KDefine, 9, 0, "x", 1),
		}},
		{"(x).y=true;x=false", []api.Node{
			node(api.KName, 10, 0, "x"),
			node(api.KDot, 12, 0, "y", 1),
			node(api.KTruth, 15, 1, ""),
			node(api.KAssign, 9, 0, "", 2, 3),
			node(api.KName, 20, 0, "x"),
			node(api.KTruth, 22, 0, ""),
			node(api.KAssign, 20, 0, "", 5, 6),
		}},
		{"c<- -1;<-c<-2", []api.Node{
			node(api.KName, 9, 0, "c"),
			node(api.KNumber, 14, 1, ""),
			node(api.KNeg, 13, 0, "", 2),
			node(api.KSend, 9, 0, "", 1, 3),
			node(api.KName, 18, 0, "c"),
			node(api.KRecv, 16, 0, "", 5),
			node(api.KNumber, 21, 2, ""),
			node(api.KSend, 16, 0, "", 6, 7),
		}},
		{"(g)(1,!x);go g()()", []api.Node{
			node(api.KName, 10, 0, "g"),
			node(api.KNumber, 13, 1, ""),
			node(api.KName, 16, 0, "x"),
			node(api.KNot, 15, 0, "", 3),
			node(api.KCall, 12, 0, "", 1, 2, 4),
			node(api.KDo, 9, 0, "", 5),
			node(api.KName, 22, 0, "g"),
			node(api.KCall, 23, 0, "", 7),
			node(api.KCall, 25, 0, "", 8),
			node(api.KGo, 19, 0, "", 9),
		}},
		{"close(c);panic(1);print(x)", []api.Node{
			node(api.KName, 15, 0, "c"),
			node(api.KClose, 9, 0, "", 1),
			node(api.KNumber, 24, 1, ""),
			node(api.KPanic, 18, 0, "", 3),
			node(api.KName, 33, 0, "x"),
			node(api.KPrint, 27, 0, "", 5),
		}},
		{"if a{}else if b{x}else{}", []api.Node{
			node(api.KName, 12, 0, "a"),
			node(api.KBlock, 13, 0, ""),
			node(api.KName, 23, 0, "b"),
			node(api.KName, 25, 0, "x"),
			node(api.KDo, 25, 0, "", 4),
			node(api.KBlock, 24, 0, "", 5),
			node(api.KBlock, 31, 0, ""),
			node(api.KIf, 20, 0, "", 3, 6, 7),
			node(api.KIf, 9, 0, "", 1, 2, 8),
		}},
		{"if a{};for b{break};return;return 1", []api.Node{
			node(api.KName, 12, 0, "a"),
			node(api.KBlock, 13, 0, ""),
			node(api.KIf, 9, 0, "", 1, 2),
			node(api.KName, 20, 0, "b"),
			node(api.KBreak, 22, 0, ""),
			node(api.KBlock, 21, 0, "", 5),
			node(api.KFor, 16, 0, "", 4, 6),
			node(api.KReturn, 29, 0, ""),
			node(api.KNumber, 43, 1, ""),
			node(api.KReturn, 36, 0, "", 9),
		}},
		{"select{};select{case x:=<-a:case<-b+1:y;case c<-2:default:}", []api.Node{
			node(api.KSelect, 9, 0, ""),
			node(api.KName, 35, 0, "a"),
			node(api.KBlock, 36, 0, ""),
			node(api.KCaseRecv, 25, 0, "x", 2, 3),
			node(api.KName, 43, 0, "b"),
			node(api.KNumber, 45, 1, ""),
			node(api.KBinary, 44, 0, "+", 5, 6),
			node(api.KName, 47, 0, "y"),
			node(api.KDo, 47, 0, "", 8),
			node(api.KBlock, 46, 0, "", 9),
			node(api.KCaseRecv, 37, 0, "", 7, 10),
			node(api.KName, 54, 0, "c"),
			node(api.KNumber, 57, 2, ""),
			node(api.KBlock, 58, 0, ""),
			node(api.KCaseSend, 49, 0, "", 12, 13, 14),
			node(api.KBlock, 66, 0, ""),
			node(api.KCaseElse, 59, 0, "", 16),
			node(api.KSelect, 18, 0, "", 4, 11, 15, 17),
		}},
		{"a.b.(*C);func(x I){}", []api.Node{
			node(api.KName, 9, 0, "a"),
			node(api.KDot, 10, 0, "b", 1),
			node(api.KPtr, 14, 0, "C"),
			node(api.KAssert, 12, 0, "", 2, 3),
			node(api.KDo, 9, 0, "", 4),
			node(api.KNamed, 25, 0, "I"),
			node(api.KParam, 23, 0, "x", 6),
			node(api.KSig, 22, 1, "", 7),
			node(api.KBlock, 27, 0, ""),
			node(api.KLit, 18, 0, "", 8, 9),
			node(api.KDo, 18, 0, "", 10),
		}},
		{"new(A);make(chan int,0);make(chan chan B,7)", []api.Node{
			node(api.KNew, 9, 0, "A"),
			node(api.KDo, 9, 0, "", 1),
			node(api.KInt, 26, 0, ""),
			node(api.KMake, 16, 0, "", 3),
			node(api.KDo, 16, 0, "", 4),
			node(api.KNamed, 48, 0, "B"),
			node(api.KChan, 43, 0, "", 6),
			node(api.KMake, 33, 7, "", 7),
			node(api.KDo, 33, 0, "", 8),
		}},
		{"a-b-c", []api.Node{
			node(api.KName, 9, 0, "a"),
			node(api.KName, 11, 0, "b"),
			node(api.KBinary, 10, 0, "-", 1, 2),
			node(api.KName, 13, 0, "c"),
			node(api.KBinary, 12, 0, "-", 3, 4),
			node(api.KDo, 9, 0, "", 5),
		}},
	} {
		nodes, fault := Parse(head + x.text + "}")
		if fault != (api.Fault{}) || len(nodes) < 5 {
			t.Errorf("%q: %v\n%s", x.text, fault, tell(nodes))
			continue
		}
		// Ahead of the statements' nodes stands the KSig, behind them stand block, function and program.
		if inner := nodes[1 : len(nodes)-3]; !sameNodes(inner, x.nodes) {
			t.Errorf("%q:\n%s", x.text, tell(inner))
		}
	}
}

// grouped writes an expression with brackets around each operator and sign.
func grouped(nodes []api.Node, number int) string {
	n := nodes[number]
	kid := func(i int) string { return grouped(nodes, n.Kids[i]) }
	switch n.Kind {
	case api.KBinary:
		return "(" + kid(0) + n.Text + kid(1) + ")"
	case api.KNot:
		return "(!" + kid(0) + ")"
	case api.KNeg:
		return "(-" + kid(0) + ")"
	case api.KRecv:
		return "(<-" + kid(0) + ")"
	case api.KDot:
		return "(" + kid(0) + "." + n.Text + ")"
	case api.KCall:
		return "(" + kid(0) + "())"
	}
	return n.Text
}

func TestOperatorsGroup(t *testing.T) {
	signs := [][]string{{"||"}, {"&&"}, {"==", "!=", "<", "<=", ">", ">="}, {"+", "-"}, {"*", "/", "%"}}
	group := func(expr string) string {
		nodes, fault := Parse("func f(){return " + expr + "}")
		if fault.Code != api.OK {
			t.Fatal(expr, fault)
		}
		back := nodes[len(nodes)-4]
		return grouped(nodes, back.Kids[0])
	}
	for i, left := range signs {
		for j, right := range signs {
			for _, l := range left {
				for _, r := range right {
					want := "((a" + l + "b)" + r + "c)"
					if i < j {
						want = "(a" + l + "(b" + r + "c))"
					}
					if got := group("a" + l + "b" + r + "c"); got != want {
						t.Errorf("%s: %s", want, got)
					}
				}
			}
		}
	}
	for expr, want := range map[string]string{
		"-a+b":        "((-a)+b)",
		"a- -b":       "(a-(-b))",
		"!a&&b":       "((!a)&&b)",
		"<-a*b":       "((<-a)*b)",
		"!-<-a":       "(!(-(<-a)))",
		"-a.b":        "(-(a.b))",
		"<-a()":       "(<-(a()))",
		"a.b().c":     "(((a.b)()).c)",
		"a==b==c":     "((a==b)==c)",
		"a==(b==c)":   "(a==(b==c))",
		"((a))":       "a",
		"a||b&&c<d+e": "(a||(b&&(c<(d+e))))",
		"a*b+c<d&&e":  "((((a*b)+c)<d)&&e)",
	} {
		if got := group(expr); got != want {
			t.Errorf("%s: %s", expr, got)
		}
	}
}

// TestLeftOutSigns: the ";" ahead of a "}", and behind the last decl, may be left out; each other one may not.
func TestLeftOutSigns(t *testing.T) {
	long := "type A struct{a int;};type I interface{m();};func f(){x;select{case <-c:y;default:z;};};"
	short := "type A struct{a int};type I interface{m()};func f(){x;select{case <-c:y;default:z}}"
	lines := "type A struct{\na int\n}\ntype I interface{\nm()\n}\nfunc f(){\nx\nselect{\ncase <-c:\ny\ndefault:\nz\n}\n}\n"
	nodes, fault := Parse(long)
	if fault.Code != api.OK {
		t.Fatal(fault)
	}
	for _, text := range []string{short, lines} {
		other, fault := Parse(text)
		if fault.Code != api.OK || !sameNodes(bare(nodes), bare(other)) {
			t.Errorf("%q: %v", text, fault)
		}
	}
}

func TestFaults(t *testing.T) {
	for _, x := range []struct {
		text string
		code api.Errno
		at   int
	}{
		// Scan's come first, wherever they are.
		{"func f(){x:=}#", api.ErrRune, 13},
		{") 01", api.ErrSyntax, 2},
		{strings.Repeat(")", api.MaxText+1), api.ErrSize, 0},
		// decls
		{";", api.ErrSyntax, 0},
		{"x", api.ErrSyntax, 0},
		{"func", api.ErrSyntax, 4},
		{"func  ", api.ErrSyntax, 6},
		{"func 1", api.ErrSyntax, 5},
		{"func int(){}", api.ErrSyntax, 5},
		{"func f{}", api.ErrSyntax, 6},
		{"func f()", api.ErrSyntax, 8},
		{"func f(){", api.ErrSyntax, 9},
		{"func f(){};;", api.ErrSyntax, 11},
		{"func f(){}\n;", api.ErrSyntax, 11},
		{"func f(){}func g(){}", api.ErrSyntax, 10},
		{"func f()\n{}", api.ErrSyntax, 8},
		{"func f(a){}", api.ErrSyntax, 8},
		{"func f(a int,){}", api.ErrSyntax, 13},
		{"func f(a int b int){}", api.ErrSyntax, 13},
		{"func f(,){}", api.ErrSyntax, 7},
		{"func (){}", api.ErrSyntax, 6},
		{"func (a A) m(){}", api.ErrSyntax, 8},
		{"func (a * *A) m(){}", api.ErrSyntax, 10},
		{"func (a *A, b *B) m(){}", api.ErrSyntax, 10},
		{"func (a *A)(){}", api.ErrSyntax, 11},
		{"type", api.ErrSyntax, 4},
		{"type A int", api.ErrSyntax, 7},
		{"type A struct", api.ErrSyntax, 13},
		{"type A struct{a int b int}", api.ErrSyntax, 20},
		{"type A struct{a,b int}", api.ErrSyntax, 15},
		{"type A struct{;}", api.ErrSyntax, 14},
		{"type A interface{m int}", api.ErrSyntax, 19},
		{"type A interface{m(){}}", api.ErrSyntax, 20},
		{"type A interface{m(int)}", api.ErrSyntax, 19},
		// types
		{"type A struct{a **B}", api.ErrSyntax, 17},
		{"type A struct{a *int}", api.ErrSyntax, 17},
		{"type A struct{a chan}", api.ErrSyntax, 20},
		{"type A struct{a func}", api.ErrSyntax, 20},
		{"type A struct{a func(x int)}", api.ErrSyntax, 23},
		{"type A struct{a func(int,)}", api.ErrSyntax, 25},
		{"type A struct{a struct{}}", api.ErrSyntax, 16},
		{"type A struct{a (int)}", api.ErrSyntax, 16},
		// statements
		{"func f(){;}", api.ErrSyntax, 9},
		{"func f(){x:=}", api.ErrSyntax, 12},
		{"func f(){x y}", api.ErrSyntax, 11},
		{"func f(){x:=1 y}", api.ErrSyntax, 14},
		{"func f(){(x):=1}", api.ErrSyntax, 12},
		{"func f(){x.y:=1}", api.ErrSyntax, 12},
		{"func f(){x:=y:=1}", api.ErrSyntax, 13},
		{"func f(){x=y=1}", api.ErrSyntax, 12},
		{"func f(){x<-y<-1}", api.ErrSyntax, 13},
		{"func f(){x:=a<-b}", api.ErrSyntax, 13},
		{"func f(){f(a<-b)}", api.ErrSyntax, 12},
		{"func f(){go}", api.ErrSyntax, 11},
		{"func f(){go x=1}", api.ErrSyntax, 13},
		{"func f(){close()}", api.ErrSyntax, 15},
		{"func f(){close c}", api.ErrSyntax, 15},
		{"func f(){panic(1,2)}", api.ErrSyntax, 16},
		{"func f(){print(1).x}", api.ErrSyntax, 17},
		{"func f(){x:=print(1)}", api.ErrSyntax, 12},
		{"func f(){if{}}", api.ErrSyntax, 11},
		{"func f(){if x}", api.ErrSyntax, 13},
		{"func f(){if x{}else}", api.ErrSyntax, 19},
		{"func f(){if x{}else y}", api.ErrSyntax, 20},
		{"func f(){if x{}else for y{}}", api.ErrSyntax, 20},
		{"func f(){if x{}\nelse{}}", api.ErrSyntax, 16},
		{"func f(){if x{};else{}}", api.ErrSyntax, 16},
		{"func f(){if x:=1{}}", api.ErrSyntax, 13},
		{"func f(){if x{}else{}else{}}", api.ErrSyntax, 21},
		{"func f(){for{}}", api.ErrSyntax, 12},
		{"func f(){for x{}else{}}", api.ErrSyntax, 16},
		{"func f(){return)}", api.ErrSyntax, 15},
		{"func f(){return 1,2}", api.ErrSyntax, 17},
		{"func f(){break x}", api.ErrSyntax, 15},
		{"func f(){{}}", api.ErrSyntax, 9},
		{"func f(){case <-c:}", api.ErrSyntax, 9},
		{"func f(){func g(){}}", api.ErrSyntax, 14},
		{"func f(){type A struct{}}", api.ErrSyntax, 9},
		// select
		{"func f(){select x{}}", api.ErrSyntax, 16},
		{"func f(){select{x}}", api.ErrSyntax, 16},
		{"func f(){select{case:}}", api.ErrSyntax, 20},
		{"func f(){select{case x:}}", api.ErrSyntax, 22},
		{"func f(){select{case x:=1:}}", api.ErrSyntax, 24},
		{"func f(){select{case x:=y<-1:}}", api.ErrSyntax, 24},
		{"func f(){select{case x=<-c:}}", api.ErrSyntax, 22},
		{"func f(){select{case <-c<-1:}}", api.ErrSyntax, 24},
		{"func f(){select{case x<-1<-2:}}", api.ErrSyntax, 25},
		{"func f(){select{case <-c}}", api.ErrSyntax, 24},
		{"func f(){select{case <-c:x case <-d:}}", api.ErrSyntax, 27},
		{"func f(){select{case <-c:;}}", api.ErrSyntax, 25},
		{"func f(){select{default x}}", api.ErrSyntax, 24},
		{"func f(){select{default:x default:}}", api.ErrSyntax, 26},
		// expressions
		{"func f(){1+}", api.ErrSyntax, 11},
		{"func f(){+1}", api.ErrSyntax, 9},
		{"func f(){a b}", api.ErrSyntax, 11},
		{"func f(){a.}", api.ErrSyntax, 11},
		{"func f(){a.1}", api.ErrSyntax, 11},
		{"func f(){a.int}", api.ErrSyntax, 11},
		{"func f(){a.()}", api.ErrSyntax, 12},
		{"func f(){a.(1)}", api.ErrSyntax, 12},
		{"func f(){a(}", api.ErrSyntax, 11},
		{"func f(){a(1,)}", api.ErrSyntax, 13},
		{"func f(){a(1 2)}", api.ErrSyntax, 13},
		{"func f(){()}", api.ErrSyntax, 10},
		{"func f(){(a,b)}", api.ErrSyntax, 11},
		{"func f(){new()}", api.ErrSyntax, 13},
		{"func f(){new(*A)}", api.ErrSyntax, 13},
		{"func f(){new(int)}", api.ErrSyntax, 13},
		{"func f(){new A}", api.ErrSyntax, 13},
		{"func f(){make(int)}", api.ErrSyntax, 14},
		{"func f(){make(A)}", api.ErrSyntax, 14},
		{"func f(){make(chan)}", api.ErrSyntax, 18},
		{"func f(){make(chan int,x)}", api.ErrSyntax, 23},
		{"func f(){make(chan int,-1)}", api.ErrSyntax, 23},
		{"func f(){make(chan int,1,2)}", api.ErrSyntax, 24},
		{"func f(){func(){}", api.ErrSyntax, 17},
		{"func f(){x:=func g(){}}", api.ErrSyntax, 17},
		{"func f(){x:=int}", api.ErrSyntax, 12},
		{"func f(){x[1]}", api.ErrRune, 10},
		{"func f(){a;", api.ErrSyntax, 11},
		{"func f(){(a", api.ErrSyntax, 11},
	} {
		nodes, fault := Parse(x.text)
		if fault != (api.Fault{Code: x.code, At: x.at}) || len(nodes) != 0 {
			t.Errorf("%q: %v %d nodes", x.text, fault, len(nodes))
		}
		text, fault := Print(x.text)
		if fault != (api.Fault{Code: x.code, At: x.at}) || text != "" {
			t.Errorf("%q: Print: %v %q", x.text, fault, text)
		}
	}
}

// TestFull: MaxNodes nodes may be, one more may not; that is told last.
func TestFull(t *testing.T) {
	// Each "x=1;" makes three nodes; the rest of the program makes four.
	row := func(nodes int) string {
		extra := []string{"", "return;", "x;"}[(nodes-4)%3]
		return "func f(){" + strings.Repeat("x=1;", (nodes-4)/3) + extra + "}"
	}
	nodes, fault := Parse(row(api.MaxNodes))
	if fault != (api.Fault{}) || len(nodes) != api.MaxNodes {
		t.Error(fault, len(nodes))
	}
	full := row(api.MaxNodes + 1)
	for _, x := range []struct {
		text string
		code api.Errno
		at   int
	}{
		{full, api.ErrFull, len(full)},
		{full + "\n // a note", api.ErrFull, len(full) + len("\n // a note")},
		{full + ";", api.ErrFull, len(full) + 1},
		{full + ";;", api.ErrSyntax, len(full) + 1},
		{full + ";func", api.ErrSyntax, len(full) + len(";func")},
		{full[:len(full)-1], api.ErrSyntax, len(full) - 1},
		{full + ";func f" + strings.Repeat("(", 40), api.ErrSyntax, len(full) + len(";func f(")},
		{full + ";func f(){" + strings.Repeat("(", 40), api.ErrDeep, len(full) + len(";func f(){") + api.MaxNest - 1},
	} {
		nodes, fault := Parse(x.text)
		if fault != (api.Fault{Code: x.code, At: x.at}) || len(nodes) != 0 {
			t.Error(x.code, x.at, fault)
		}
		if text, fault := Print(x.text); fault.Code != x.code || text != "" {
			t.Error(x.code, fault)
		}
	}
}

// TestNewMemory: no two lists of an answer share any memory, and answers share none with each other.
func TestNewMemory(t *testing.T) {
	const text = "type A struct{a int;b int};func(a*A)m(x int,y func(int,int)int)int{select{case f(1,2,3)<-1:x;default:};if a{}else{}}"
	first, fault := Parse(text)
	if fault.Code != api.OK {
		t.Fatal(fault)
	}
	other, _ := Parse(text)
	want := tell(first)
	for i := range first {
		kids := first[i].Kids
		kids = kids[:cap(kids)]
		old := append([]int(nil), kids...)
		for k := range kids {
			kids[k] = -1
		}
		first[i].Kids = nil
		if tell(first[:i]) != tell(other[:i]) || tell(first[i+1:]) != tell(other[i+1:]) {
			t.Fatal("shared by node", i)
		}
		copy(kids, old)
		first[i].Kids = kids[:len(other[i].Kids)]
	}
	if tell(first) != want || tell(other) != want {
		t.Error("changed")
	}
}

// TestEveryCut: of no text, cut anywhere, or with a token less or twice, is there a panic, and nodes stand just where there is no fault.
func TestEveryCut(t *testing.T) {
	for _, x := range printed {
		text := x.form
		for i := range text {
			for _, cut := range []string{text[:i], text[i:], text[:i] + text[i+1:], text[:i] + text[i:i+1] + text[i:]} {
				nodes, fault := Parse(cut)
				if (fault.Code == api.OK) != (len(nodes) > 0) || fault.Code == api.OK && fault.At != 0 || fault.At > len(cut) {
					t.Fatalf("%q: %v %d", cut, fault, len(nodes))
				}
			}
		}
	}
}
