package whole

import (
	"math/rand"
	"strconv"
	"strings"

	"ravel/api"
	"ravel/check"
)

// livelyHead stands ahead of the functions of lively programs.
const livelyHead = `
type A struct { n int; b bool; next *A; c chan int; f func(int) int; i I }
type B struct { n int; a *A }
type I interface { get() int; put(n int) I }
func (a *A) get() int { return a.n }
func (a *A) put(n int) I { a.n = n; return a }
func (b *B) get() int { if b == nil { return 1 }; return b.n + 1 }
func (b *B) put(n int) I { b.n = b.n + n; return b }
func (b *B) serve(c chan int, d chan int) { for b.n < 3 { b.n = b.n + 1; d <- <-c } }
func down(n int) int { if n <= 0 { return 0 }; return down(n - 1) + n }
func pump(c chan int, n int) { i := 0; for i < n { c <- i; i = i + 1 }; }
func drain(c chan int, n int) int { s := 0; for n > 0 { s = s + <-c; n = n - 1 }; return s }
func both(n int, b bool) bool { print(n); return b }
func twice(f func(int) int) func(int) int { if f == nil { return nil }; return func(n int) int { return f(f(n)) } }
`

// lively writes programs in which threads do much with each other, by chance. Its names have always the same types.
type lively struct {
	*rand.Rand
	left  int // how much more is to be written
	loops int // around, in the same function
	count int // names of loops
}

func (l *lively) one(texts ...string) string { return texts[l.Intn(len(texts))] }

func (l *lively) num(deep int) string {
	if deep <= 0 || l.Intn(3) == 0 {
		return l.one("x", "y", strconv.Itoa(l.Intn(5)), strconv.Itoa(l.Intn(5)), "x")
	}
	switch l.Intn(13) {
	case 0, 1:
		return "<-" + l.ints()
	case 2:
		return "(" + l.num(deep-1) + l.one(" + ", " - ", " * ") + l.num(deep-1) + ")"
	case 3:
		return "(" + l.num(deep-1) + l.one(" / ", " % ") + l.one("x", "2", "3", "(0 - 1)") + ")"
	case 4:
		return "-" + l.num(deep-1)
	case 5:
		return l.thing() + ".n"
	case 6:
		return l.iface() + ".get()"
	case 7:
		return "down(" + l.one("3", "x", "y", "41", "40") + ")"
	case 8:
		return l.one("f", "f", "p.f", "twice(f)", "twice(p.f)", "twice(down)") + "(" + l.num(deep-1) + ")"
	case 9:
		return "drain(" + l.ints() + ", " + l.one("1", "2", "x") + ")"
	case 10:
		return "func(x int) int { " + l.block(deep-1) + l.one("return "+l.num(deep-1), "") + " }(" + l.num(deep-1) + ")"
	case 11:
		return l.one("p", "q") + l.one(".get", ".put(2).get") + "()"
	}
	return l.one("x", "y")
}

func (l *lively) truth(deep int) string {
	switch l.Intn(9) {
	case 0:
		return l.num(deep-1) + l.one(" < ", " <= ", " > ", " >= ", " == ", " != ") + l.num(deep-1)
	case 1:
		return "(b" + l.one(" && ", " || ") + "both(" + l.num(deep-1) + ", " + l.one("true", "false", "b") + "))"
	case 2:
		return l.one("c == d", "p == q", "i == p", "i != nil", "f == nil", "p.next == nil", "<-t", "b == true", "p.i == i")
	case 3:
		return "!(" + l.truth(deep) + ")"
	case 4:
		return "<-t"
	}
	return l.one("b", "true", "x < 2", "x == y", "y > 1")
}

func (l *lively) ints() string { return l.one("c", "c", "d", "d", "e", "p.c") }

func (l *lively) thing() string { return l.one("p", "q", "p", "p.next", "i.(*A)", "r") }

func (l *lively) iface() string { return l.one("i", "i", "p.i", "i.put(x)") }

func (l *lively) stmt(deep int) string {
	l.left--
	if deep <= 0 || l.left <= 0 {
		return l.simple(1)
	}
	switch l.Intn(18) {
	case 0, 1:
		return l.selectOf(deep - 1)
	case 2, 3, 4:
		return l.goOf(deep - 1)
	case 5:
		return "if " + l.truth(2) + " { " + l.block(deep-1) + " }" + l.one("", " else { "+l.block(deep-1)+" }")
	case 6:
		return l.loop(deep - 1)
	case 7:
		return l.one("f", "p.f", "f") + " = " + l.one("func(x int) int { "+l.block(deep-1)+" return x + y }", "down", "twice(f)", "nil", "func(n int) int { x = x + n; return x }")
	}
	return l.simple(2)
}

func (l *lively) simple(deep int) string {
	switch l.Intn(16) {
	case 0, 1, 2:
		return l.ints() + " <- " + l.num(deep)
	case 3, 4:
		return "<-" + l.ints()
	case 5, 6:
		return "print(" + l.one(l.num(deep), l.num(deep), l.truth(deep)) + ")"
	case 7:
		return l.one("x", "y", "x", l.thing()+".n") + " = " + l.num(deep)
	case 8:
		return l.one("b", "p.b") + " = " + l.truth(deep)
	case 9:
		return l.one("p = q", "p.next = p", "q = p.next", "i = p", "i = r", "i = nil", "p = new(A)", "p.i = i", "i = p.i", "p = i.(*A)", "r = i.(*B)", "p.c = c")
	case 10:
		return l.one("c = d", "d = make(chan int)", "e = make(chan int, 2)", "c = e", "d = nil", "h <- c", "c = <-h", "p.c = <-h", "h <- d")
	case 11:
		return l.one("close(c)", "close(e)", "close(e); select { case e <- x: case <-d: }", "close(t)", "t <- "+l.truth(1), "t <- b", "<-t", "close(d)")
	case 12:
		if l.loops > 0 {
			return l.one("break", "if b { break }")
		}
	case 13:
		return l.one("if b { return 1 }", "if x > 2 { return x }", "print(x)", "if b { panic(x) }")
	case 14:
		return l.one("pump(c, 2)", "drain(d, 1)", "r.serve(c, d)", "i.put(x)", "f(1)")
	}
	return l.one("x = x + 1", "y = y - 1", "b = !b")
}

func (l *lively) block(deep int) string {
	var lines []string
	if l.Intn(5) == 0 {
		name := l.one("x", "y")
		lines = append(lines, name+" := "+l.num(1))
	}
	for range 1 + l.Intn(3) {
		lines = append(lines, l.stmt(deep))
	}
	return strings.Join(lines, "; ") + ";"
}

// inFunc writes something that is within a function of its own.
func (l *lively) inFunc(write func() string) string {
	loops := l.loops
	l.loops = 0
	text := write()
	l.loops = loops
	return text
}

func (l *lively) goOf(deep int) string {
	return l.inFunc(func() string {
		switch l.Intn(6) {
		case 0:
			return "go " + l.one("pump("+l.ints()+", 3)", "drain("+l.ints()+", 2)", "r.serve(c, d)", "i.put(<-c)", "f(x)", "down(x)")
		case 1:
			return "go func(x int, c chan int) int { " + l.block(deep) + " }(" + l.num(1) + ", " + l.one("c", "d", "e", "p.c") + ")"
		}
		return "go func() int { " + l.block(deep) + " }()"
	})
}

func (l *lively) loop(deep int) string {
	if l.Intn(4) == 0 {
		l.loops++
		text := "for " + l.one("true", "b", "x < 9") + " { " + l.block(deep) + " }"
		l.loops--
		return text
	}
	l.count++
	name := "l" + strconv.Itoa(l.count)
	l.loops++
	text := name + " := 0; for " + name + " < " + l.one("2", "3", "x") + " { " + name + " = " + name + " + 1; " + l.block(deep) + " }"
	l.loops--
	return text
}

func (l *lively) selectOf(deep int) string {
	var cases []string
	for range 1 + l.Intn(4) {
		head := l.one(
			"case <-"+l.ints()+":", "case x := <-"+l.ints()+":", "case y := <-"+l.ints()+":", "case b := <-t:", "case c := <-h:",
			"case "+l.ints()+" <- "+l.num(1)+":", "case "+l.ints()+" <- "+l.num(1)+":", "case t <- b:", "case h <- d:")
		cases = append(cases, head+" "+l.block(deep))
	}
	if l.Intn(3) == 0 {
		cases = append(cases, "default: "+l.block(deep))
	}
	l.Shuffle(len(cases), func(i, k int) { cases[i], cases[k] = cases[k], cases[i] })
	return "select { " + strings.Join(cases, " ") + " }"
}

// livelyMade answers a lively program that may be.
func livelyMade(r *rand.Rand) string {
	for {
		l := lively{Rand: r, left: 8 + r.Intn(40)}
		text := livelyHead + "func main() { work() }\nfunc work() int {\n" +
			"x := " + l.one("0", "1", "2") + "; y := " + l.one("0", "3") + "; b := " + l.one("true", "false") + "\n" +
			"c := make(chan int" + l.one("", "", ", 1", ", 8") + "); d := make(chan int" + l.one("", ", 1", ", 2") + "); e := make(chan int, 2); t := make(chan bool" + l.one("", ", 1") + "); h := make(chan chan int" + l.one("", ", 1") + ")\n" +
			"p := new(A); q := p; r := new(B); i := p.i; f := p.f\n" +
			l.one("", "p.c = c\n") + l.one("", "i = p; ", "i = r; ") + l.one("", "f = down; ", "f = func(n int) int { x = x + n; return x }; ") + l.one("", "p.next = q; ", "p.next = new(A); q = p.next;") + "\n"
		for range 1 + r.Intn(4) {
			text += l.one(l.goOf(2), l.goOf(2), "go pump(c, 3)", "go drain(d, 3)", "go drain(c, 2)", "go r.serve(c, d)", "go pump(d, 3)") + "\n"
		}
		for range 1 + r.Intn(4) {
			text += l.stmt(3) + "\n"
		}
		text += "print(x)\nreturn y }\n"
		// Now and then names are there twice, or it is too long.
		if _, fault := check.Check(text); fault == (api.Fault{}) {
			return text
		}
	}
}
