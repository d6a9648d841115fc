package syntax

import (
	"strings"
	"testing"

	"ravel/api"
)

// TestDeep: things stand within one another as often as they may, and no more often.
func TestDeep(t *testing.T) {
	for _, x := range []struct {
		ahead, open, core, shut, behind string
		room, at                        int // how often it may be opened; which byte of the next one is too much
	}{
		{"func f(){return ", "(", "x", ")", "}", 29, 0},
		{"func f(){return ", "g(", "x", ")", "}", 29, 1},
		{"func f(){return ", "!", "x", "", "}", 29, 0},
		{"func f(){return ", "-", "x", "", "}", 29, 0},
		{"func f(){return ", "<-", "x", "", "}", 29, 0},
		{"func f(){return x+(-y).z(", "!", "x", "", ")}", 28, 0},
		{"func f(){go ", "(", "x", ")", "}", 29, 0},
		{"func f(){print(", "(", "x", ")", ")}", 28, 0},
		{"func f(){c<-", "(", "x", ")", "}", 29, 0},
		{"func f(){c=", "-", "x", "", "}", 29, 0},
		{"type A struct{a ", "chan ", "int", "", "}", 29, 0},
		{"type A interface{a(b ", "chan ", "int", "", ")}", 28, 0},
		{"func f(){make(", "chan ", "int", "", ")}", 28, 0},
		{"func f(){x.(", "chan ", "int", "", ")}", 28, 0},
		{"func f()", "func()", "int", "", "{}", 29, 4}, // its "(" is one more, up to the ")"
		{"func f()", "func(", "", ")", "{}", 15, 0},
		{"func f(a ", "func(", "", ")", "){}", 14, 4},
		{"func f(){", "if x{", "", "}", "}", 29, 4},
		{"func f(){", "if x{}else{", "", "}", "}", 29, 4},
		{"func f(){", "for x{", "", "}", "}", 29, 5},
		{"func f(){", "func(){", "", "}", "}", 29, 4},
		{"func f(){", "select{default:", "", "}", "}", 29, 6},
		{"func f(){select{case ", "(", "x", ")", "<-1:}}", 28, 0},
		{"func f(){select{case c<-", "(", "x", ")", ":}}", 28, 0},
		{"func f(){select{case <-", "(", "x", ")", ":}}", 28, 0},
		{"func f(){if x{}", "else if x{}", "", "", "}", 28, 9}, // the block of the last one is one more
	} {
		text := func(times int) string {
			return x.ahead + strings.Repeat(x.open, times) + x.core + strings.Repeat(x.shut, times) + x.behind
		}
		for _, times := range []int{1, x.room - 1, x.room} {
			if nodes, fault := Parse(text(times)); fault != (api.Fault{}) || len(nodes) == 0 {
				t.Errorf("%s%s, %d: %v", x.ahead, x.open, times, fault)
			}
		}
		want := api.Fault{Code: api.ErrDeep, At: len(x.ahead) + x.room*len(x.open) + x.at}
		for _, times := range []int{x.room + 1, x.room + 2, 100} {
			if nodes, fault := Parse(text(times)); fault != want || len(nodes) != 0 {
				t.Errorf("%s%s, %d: %v, not %v", x.ahead, x.open, times, fault, want)
			}
		}
	}
}

// TestSideBySide: what is shut does not count.
func TestSideBySide(t *testing.T) {
	deep := strings.Repeat("(", 28) + "x" + strings.Repeat(")", 28)
	signs := strings.Repeat("!", 28) + "x"
	chans := strings.Repeat("chan ", 28) + "int"
	funcs := strings.Repeat("func()", 27) + "int"
	elses := strings.Repeat("else if x{}", 28)
	for _, text := range []string{
		"func f(){f(" + deep + "," + deep + ")(" + deep + ");g(" + deep + ")}",
		"func f(){f(" + signs + "," + signs + "+" + signs + ")(" + signs + ");g(" + signs + ")}",
		"func f(a " + chans + ",b " + chans + ")" + chans + "{};func g()" + chans + "{make(" + chans + ");make(" + chans + ")}",
		"func f(a " + funcs + ",b " + funcs + ")" + funcs + "{};func g()" + funcs + "{x.(" + funcs + ");x.(" + funcs + ")}",
		"func f(){if x{}" + elses + ";if x{}" + elses + "}",
		"type A struct{};type B interface{};func(a*A)f(){};func g(){};func h(){select{}}",
		"func f(){" + strings.Repeat("print(make(chan func(int)int,1));", 40) + "}",
	} {
		if _, fault := Parse(text); fault != (api.Fault{}) {
			t.Errorf("%s: %v", text, fault)
		}
	}
}

// TestDeepOrSyntax: of one token ErrDeep is told where it can stand, else ErrSyntax; else what is more to the left.
func TestDeepOrSyntax(t *testing.T) {
	ahead := "func f(){return " + strings.Repeat("(", 29)
	for _, x := range []struct {
		behind string
		code   api.Errno
		at     int
	}{
		{"(", api.ErrDeep, 0},
		{"!", api.ErrDeep, 0},
		{"<-", api.ErrDeep, 0},
		{"{", api.ErrSyntax, 0},
		{"chan", api.ErrSyntax, 0},
		{"else if", api.ErrSyntax, 0},
		{"func{", api.ErrSyntax, 4},
		{"func(", api.ErrDeep, 4},
		{"x(", api.ErrDeep, 1},
		{"x-(", api.ErrDeep, 2},
		{"x!", api.ErrSyntax, 1},
		{"x.(", api.ErrDeep, 2},
		{"x.{", api.ErrSyntax, 2},
		{"make(", api.ErrDeep, 4},
		{"new(", api.ErrDeep, 3},
		{")(", api.ErrSyntax, 0},
		{"x)(", api.ErrSyntax, 3}, // one is shut ahead of the other: the text ends too early
		{"((", api.ErrDeep, 0},
		{"+(", api.ErrSyntax, 0},
	} {
		want := api.Fault{Code: x.code, At: len(ahead) + x.at}
		if _, fault := Parse(ahead + x.behind); fault != want {
			t.Errorf("%s: %v, not %v", x.behind, fault, want)
		}
	}
}
