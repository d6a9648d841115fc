package whole

import (
	"math/rand"
	"strconv"
	"strings"

	"ravel/api"
	"ravel/check"
)

// thingsHead stands ahead of the functions of programs that hand things around.
const thingsHead = `
type A struct { n *A; b *B; i I; j J; f func(*A) I; c chan *A; d chan I }
type B struct { n *A; i I; g func(I) *A; e chan chan *A }
type C struct { j J }
type I interface { m(a *A) I; o(i I) *A }
type J interface { m(a *A) I }
func boxI(i I) I { return i }
func boxJ(j J) J { return j }
`

// hands writes functions in which things are handed around, by chance. Its names have always the same types.
type hands struct {
	*rand.Rand
	left  int // how much more is to be written
	count int // names of loops
}

// handed has the types of what is handed around; those of functions and channels are told by the names that have them.
var handed = []string{"*A", "*B", "I", "J", "f", "g", "c", "d", "e"}

func (h *hands) one(texts ...string) string { return texts[h.Intn(len(texts))] }

// sure writes what is hardly ever nil: variables, and what is made anew.
func (h *hands) sure(typ string) string {
	switch typ {
	case "*A":
		return h.one("p", "q", "p", "q", "new(A)")
	case "*B":
		return h.one("r", "r", "new(B)")
	case "I":
		return h.one("i", "i", "p", "r", "new(A)", "new(B)")
	case "J":
		return h.one("j", "j", "i", "q", "r", "new(C)")
	case "f":
		return h.one("f", "f", "one", "p.m", "r.m", "i.m", "j.m", "new(C).m", h.literal("x *A", "I"))
	case "g":
		return h.one("g", "g", "two", "i.o", "q.o", "r.o", h.literal("x I", "*A"))
	case "c":
		return h.one("c", "c", "c", "make(chan *A, 2)")
	case "d":
		return h.one("d", "d", "d", "make(chan I, 3)")
	}
	return h.one("e", "e", "make(chan chan *A, 2)")
}

// risky writes what can well be nil, or does not come.
func (h *hands) risky(typ string) string {
	switch typ {
	case "*A":
		return h.one("p.n", "q.n", "r.n", "p.n.n", "g(i)", h.sure("g")+"("+h.sure("I")+")", "i.o(i)", "q.o("+h.sure("I")+")", "i.(*A)", "<-c", "<-<-e")
	case "*B":
		return h.one("p.b", "q.b", "p.n.b", "i.(*B)", "j.(*B)")
	case "I":
		return h.one("p.i", "r.i", "p.b.i", "f(p)", h.sure("f")+"("+h.sure("*A")+")", "i.m(q)", "j.m(p)", "r.m(nil)", "p.m(p)", "<-d", "boxI(i)")
	case "J":
		return h.one("p.j", "q.j", "j.(*C).j", "boxJ(j)")
	case "f":
		return h.one("p.f", "q.f", "p.i.m", "p.j.m")
	case "g":
		return h.one("r.g", "p.b.g", "p.i.o")
	case "c":
		return h.one("p.c", "q.c", "<-e")
	case "d":
		return h.one("p.d", "q.d")
	}
	return h.one("r.e", "p.b.e")
}

func (h *hands) literal(param, back string) string {
	if h.left <= 0 {
		return "func(" + param + ") " + back + " { return " + h.sure(back) + " }"
	}
	h.left -= 2
	// The name of the param hides one from around.
	name := map[string]string{"x *A": "p *A", "x I": "i I"}[param]
	return "func(" + h.one(param, name, name) + ") " + back + " { " + h.stmts(1) + "return " + h.sure(back) + " }"
}

func (h *hands) variable(typ string) string {
	switch typ {
	case "*A":
		return h.one("p", "q")
	case "*B":
		return "r"
	}
	return strings.ToLower(typ)
}

func (h *hands) field(typ string) string {
	switch typ {
	case "*A":
		return h.one("p.n", "q.n", "r.n", "p.n")
	case "*B":
		return h.one("p.b", "q.b")
	case "I":
		return h.one("p.i", "r.i", "q.i")
	case "J":
		return h.one("p.j", "q.j")
	case "g":
		return "r.g"
	case "e":
		return "r.e"
	}
	return h.one("p.", "q.") + typ
}

func (h *hands) stmts(deep int) string {
	text := ""
	for range 1 + h.Intn(4) {
		text += h.stmt(deep) + "; "
	}
	return text
}

func (h *hands) stmt(deep int) string {
	h.left--
	typ := h.one(handed...)
	kind := h.Intn(16)
	if deep <= 0 || h.left <= 0 {
		kind = h.Intn(10)
	}
	switch kind {
	case 0, 1:
		return h.variable(typ) + " = " + h.sure(typ)
	case 2, 3, 4:
		return h.field(typ) + " = " + h.sure(typ)
	case 5:
		value := h.risky(typ)
		return "if " + value + " != nil { " + h.variable(typ) + " = " + value + " }"
	case 6:
		return h.field(typ) + " = " + h.one(h.risky(typ), h.risky(typ), "nil")
	case 7:
		return h.one("select { case c <- "+h.sure("*A")+": default: }", "select { case d <- "+h.sure("I")+": default: }", "select { case e <- "+h.sure("c")+": default: }")
	case 8:
		return h.one("select { case x := <-c: p = x; default: }", "select { case x := <-d: i = x; default: }", "select { case x := <-e: c = x; default: }",
			"select { case p := <-c: r.n = p; p = q; default: }", "select { case <-c: case i := <-d: i.m(p); default: }", "select { case <-d: default: }")
	case 9:
		return h.one("f("+h.sure("*A")+")", "g("+h.sure("I")+")", "i.m(p)", "j.m(q)", "i.o(i)", "p.m(q)", "r.o(i)", "one(q)", "two(i)", h.variable(typ)+" = "+h.risky(typ))
	case 10:
		return "if " + h.one("p == q", "i == p", "i == j", "p.n == nil") + " { " + h.stmts(deep-1) + "}" + h.one("", " else { "+h.stmts(deep-1)+"}")
	case 11:
		h.count++
		name := "k" + strconv.Itoa(h.count)
		return name + " := 0; for " + name + " < " + h.one("2", "3") + " { " + name + " = " + name + " + 1; " + h.stmts(deep-1) + "}"
	case 12:
		return "if true { " + h.variable(typ) + " := " + h.one(h.sure(typ), h.sure(typ), h.risky(typ)) + "; " + h.stmts(deep-1) + "}"
	case 13:
		return "go " + h.one("func(p *A, i I) { "+h.stmts(deep-1)+"}("+h.sure("*A")+", "+h.sure("I")+")", "f(p)", "i.m(q)", "r.o(i)", "g("+h.sure("I")+")", "two(p)")
	case 14:
		return "func() { " + h.stmts(deep-1) + "}()"
	}
	// What goes well.
	return h.one("i = p; q = i.(*A)", "i = r; r = i.(*B)", "j = new(C); j = j.(*C)", "j = i; i = p; p = i.(*A)",
		"c = make(chan *A, 1); c <- "+h.sure("*A")+"; q = <-c", "d = make(chan I, 1); d <- "+h.sure("I")+"; i = <-d", "e = make(chan chan *A, 2); e <- "+h.sure("c")+"; c = <-e", "d <- i")
}

// body writes the block of a function that has a *A and an I: all other variables are made in it.
func (h *hands) body(thing, other, back string) string {
	text := "{ p := " + h.one(thing, thing, "new(A)") + "; q := " + h.one("new(A)", "p", thing) + "; r := new(B); i := boxI(" + h.one(other, other, "p", "r") + "); j := boxJ(" + h.one("i", "new(C)", "q") + "); " +
		"f := " + h.one("one", "p.m", "i.m") + "; g := " + h.one("two", "i.o", "r.o") + "; c := make(chan *A" + h.one("", ", 1", ", 3") + "); d := make(chan I, 2); e := make(chan chan *A, 1); "
	for _, typ := range handed {
		if h.Intn(3) > 0 {
			text += h.field(typ) + " = " + h.variable(typ) + "; "
		}
	}
	if back != "" {
		return text + h.stmts(2) + "return " + h.one(h.sure(back), h.sure(back), h.risky(back), "nil") + " }\n"
	}
	text += "select { case c <- q: default: }; d <- i; e <- c; k := 0; for k < 2 { k = k + 1; "
	for h.left > 0 {
		text += h.stmt(3) + "; "
	}
	return text + "} }\n"
}

// little writes the block of a function that does little with its params.
func (h *hands) little(a, i, back string) string {
	if back == "I" {
		return h.one("{ return "+a+" }\n", "{ if "+a+" == nil { return new(B) }; return "+a+".i }\n", "{ "+a+".n = "+a+"; return new(A) }\n", "{ return nil }\n")
	}
	return h.one("{ return nil }\n", "{ return "+i+".o(nil) }\n", "{ return new(A) }\n", "{ return "+i+".(*A) }\n", "{ a := new(A); a.i = "+i+"; return a }\n")
}

// thingsMade answers a program that may be, in which things are handed around.
func thingsMade(r *rand.Rand) string {
	for {
		h := &hands{Rand: r, left: 4 + r.Intn(30)}
		text := thingsHead
		sigs := []struct{ head, a, i, back string }{
			{"func one(x *A) I ", "x", "x", "I"},
			{"func two(x I) *A ", "new(A)", "x", "*A"},
			{"func (x *A) m(y *A) I ", h.one("x", "y"), "x", "I"},
			{"func (x *A) o(y I) *A ", "x", "y", "*A"},
			{"func (x *B) m(y *A) I ", "y", "x", "I"},
			{"func (x *B) o(y I) *A ", "new(A)", h.one("x", "y"), "*A"},
			{"func (x *C) m(y *A) I ", "y", "y", "I"},
		}
		for _, sig := range sigs {
			if r.Intn(5) == 0 {
				text += sig.head + h.body(sig.a, sig.i, sig.back)
			} else {
				text += sig.head + h.little(sig.a, sig.i, sig.back)
			}
		}
		h.left = 20 + r.Intn(40)
		text += "func main() " + h.body("new(A)", "new(B)", "")
		// Now and then names are there twice in a block, or it is too long.
		if _, fault := check.Check(text); fault == (api.Fault{}) {
			return text
		}
	}
}
