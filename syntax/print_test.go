package syntax

import (
	"strings"
	"testing"

	"ravel/api"
)

// printed has programs, and each in the one form.
var printed = []struct{ text, form string }{
	{"", ""},
	{"  // a note", ""},
	{"func main(){print(1+2*3)}", "func main() {\n\tprint(1 + 2 * 3)\n}\n"},
	{"type A struct{}", "type A struct {\n}\n"},
	{"type A interface{}", "type A interface {\n}\n"},
	{"func f(){}", "func f() {\n}\n"},
	{
		"type A struct{a int;b*A;c chan chan bool};type I interface{m();n(a int,b I)func(int,*A)func()};func(a*A)m(){};func f(x bool)chan int{}",
		`type A struct {
	a int
	b *A
	c chan chan bool
}

type I interface {
	m()
	n(a int, b I) func(int, *A) func()
}

func (a *A) m() {
}

func f(x bool) chan int {
}
`,
	},
	{
		"func f(){x:=1;x=2;a.b=nil;c<-true;g(1,2);<-c;go g();close(c);panic(-1);print(false);return;return x;break;new(A);make(chan int);make(chan int,0);make(chan *A,3)}",
		`func f() {
	x := 1
	x = 2
	a.b = nil
	c <- true
	g(1, 2)
	<-c
	go g()
	close(c)
	panic(-1)
	print(false)
	return
	return x
	break
	new(A)
	make(chan int)
	make(chan int)
	make(chan *A, 3)
}
`,
	},
	{
		"func f(){if a{x}else if b{y}else if c{}else{z};for d{if e{};if g{}else{break}}}",
		`func f() {
	if a {
		x
	} else if b {
		y
	} else if c {
	} else {
		z
	}
	for d {
		if e {
		}
		if g {
		} else {
			break
		}
	}
}
`,
	},
	{
		"func f(){select{};select{case<-c:case x:=<-d:x;y;case a<-1:select{default:z};default:};w}",
		`func f() {
	select {
	}
	select {
	case <-c:
	case x := <-d:
		x
		y
	case a <- 1:
		select {
		default:
			z
		}
	default:
	}
	w
}
`,
	},
	{
		"func f(){go func(){c<-1}();x:=g(func(a int)int{return a},func(){},3);if func()bool{return true}(){};select{case func()chan int{y}()<-2:z}}",
		`func f() {
	go func() {
		c <- 1
	}()
	x := g(func(a int) int {
		return a
	}, func() {
	}, 3)
	if func() bool {
		return true
	}() {
	}
	select {
	case func() chan int {
		y
	}() <- 2:
		z
	}
}
`,
	},
}

func TestPrint(t *testing.T) {
	for _, x := range printed {
		for _, text := range []string{x.text, x.form} {
			if form, fault := Print(text); fault != (api.Fault{}) || form != x.form {
				t.Errorf("%q: %v\n%s", text, fault, form)
			}
		}
	}
}

// TestPrintRows: of statements, what is printed on their line.
func TestPrintRows(t *testing.T) {
	for text, form := range map[string]string{
		// a side of an operator
		"a+(b+c)":       "a + (b + c)",
		"(a+b)+c":       "a + b + c",
		"a-(b-c)":       "a - (b - c)",
		"a*(b+c)":       "a * (b + c)",
		"(a*b)+c":       "a * b + c",
		"a+(b*c)":       "a + b * c",
		"(a+b)*c":       "(a + b) * c",
		"(a*b)%c/d":     "a * b % c / d",
		"a*(b%c)":       "a * (b % c)",
		"(a<b)==(c<d)":  "a < b == (c < d)",
		"(a||b)&&c":     "(a || b) && c",
		"a||(b&&c)":     "a || b && c",
		"a&&(b&&c)":     "a && (b && c)",
		"a||(b||c)":     "a || (b || c)",
		"(a<=b)>=c!=d":  "a <= b >= c != d",
		"(a+1)<(b-1)":   "a + 1 < b - 1",
		"((a))":         "a",
		"(a)*((b))":     "a * b",
		"(a.b)+(f(c))":  "a.b + f(c)",
		"(-a)*(-b)":     "-a * -b",
		"(!a)&&(<-b)":   "!a && <-b",
		"(func(){})==x": "func() {\n\t} == x",
		// behind a sign
		"-(a+b)":       "-(a + b)",
		"-(-a)":        "--a",
		"!(!a)":        "!!a",
		"<-(<-a)":      "<-<-a",
		"<-(-a)":       "<--a",
		"-(<-a)":       "-<-a",
		"!(a==b)":      "!(a == b)",
		"<-(a||b)":     "<-(a || b)",
		"-(a.b)":       "-a.b",
		"-(a())":       "-a()",
		"-(1)":         "-1",
		"a-(-1)":       "a - -1",
		"a<(-b)":       "a < -b",
		"-(a)+b":       "-a + b",
		"-(a*b)*c":     "-(a * b) * c",
		"(-a).b":       "(-a).b",
		"(!a)(1)":      "(!a)(1)",
		"(<-a).(*B)":   "(<-a).(*B)",
		"(<-a)()":      "(<-a)()",
		"(a+b).c":      "(a + b).c",
		"(a*b)(c)":     "(a * b)(c)",
		"(a==b).(I)":   "(a == b).(I)",
		"(a).b":        "a.b",
		"(a.b).c":      "a.b.c",
		"(a(b))(c)":    "a(b)(c)",
		"(a.(*B)).c":   "a.(*B).c",
		"(1).x":        "1.x",
		"(nil)()":      "nil()",
		"(new(A)).x":   "new(A).x",
		"(func(){})()": "func() {\n\t}()",
		// values
		"f((a+b),(-c))":            "f(a + b, -c)",
		"f((a),((b)))":             "f(a, b)",
		"x:=(a+b)":                 "x := a + b",
		"(a)=(b)":                  "a = b",
		"(a+b)=(c)":                "a + b = c",
		"(a)<-(b+c)":               "a <- b + c",
		"(<-a)<-(<-b)":             "<-a <- <-b",
		"go (f)()":                 "go f()",
		"print((a))":               "print(a)",
		"return (a+b)":             "return a + b",
		"x.(func(int,bool)chan I)": "x.(func(int, bool) chan I)",
		// cases
		"select{case(<-a)<-1:}":        "select {\n\tcase (<-a) <- 1:\n\t}",
		"select{case(<-a+b)<-1:}":      "select {\n\tcase (<-a + b) <- 1:\n\t}",
		"select{case(<-a)+b-c<-1:}":    "select {\n\tcase (<-a + b - c) <- 1:\n\t}",
		"select{case(<-a)*b+c<-1:}":    "select {\n\tcase (<-a * b + c) <- 1:\n\t}",
		"select{case(<-a+b)*c<-1:}":    "select {\n\tcase (<-a + b) * c <- 1:\n\t}",
		"select{case a+<-b<-1:}":       "select {\n\tcase a + <-b <- 1:\n\t}",
		"select{case(<-a).b<-1:}":      "select {\n\tcase (<-a).b <- 1:\n\t}",
		"select{case(<-a)()<-1:}":      "select {\n\tcase (<-a)() <- 1:\n\t}",
		"select{case(-<-a)<-1:}":       "select {\n\tcase -<-a <- 1:\n\t}",
		"select{case(<-<-a)<-1:}":      "select {\n\tcase (<-<-a) <- 1:\n\t}",
		"select{case(a)<-(<-b):}":      "select {\n\tcase a <- <-b:\n\t}",
		"select{case<-(<-a):}":         "select {\n\tcase <-<-a:\n\t}",
		"select{case x:=<-((a)):}":     "select {\n\tcase x := <-a:\n\t}",
		"select{case x:=<-(a+b):x:=1}": "select {\n\tcase x := <-a + b:\n\t\tx := 1\n\t}",
	} {
		got, fault := Print("func f(){" + text + "}")
		if want := "func f() {\n\t" + form + "\n}\n"; fault != (api.Fault{}) || got != want {
			t.Errorf("%s: %v\n%s", text, fault, got)
		}
	}
}

// TestPrintBeyondMaxText: what is printed may be longer than what may be read.
func TestPrintBeyondMaxText(t *testing.T) {
	ahead := strings.Repeat("if x{", 28)
	text := "func f(){" + ahead + strings.Repeat("y;", 300) + strings.Repeat("}", 28) + "}"
	form, fault := Print(text)
	if fault != (api.Fault{}) || len(form) <= api.MaxText || strings.Count(form, "\n"+strings.Repeat("\t", 29)+"y\n") == 0 {
		t.Error(fault, len(form))
	}
	if _, fault := Parse(form); fault != (api.Fault{Code: api.ErrSize}) {
		t.Error(fault)
	}
}
