package whole

import (
	"math/rand"
	"slices"
	"strconv"
	"strings"
	"testing"

	"ravel/api"
	"ravel/check"
	"ravel/fold"
	"ravel/run"
	"ravel/syntax"
)

// This is a second way to fold: the program is written as a text, all operators in brackets, by what the second way tells of values, and then printed.

// trimmer has what is known, and counts what it makes less of.
type trimmer struct {
	machine
	told   constsAgain
	counts map[string]int
}

func newTrimmer(text string) trimmer {
	m, _ := readAgain(text)
	return trimmer{m, guessAll(text), map[string]int{}}
}

// sure tells whether an expression is, and which number it is.
func (r trimmer) sure(number int) (int, bool) {
	known := r.told.values[number]
	return known.Num, known.State == 1 && r.calm(number)
}

// calm tells whether all is allowed that stands in an expression that is sure.
func (r trimmer) calm(number int) bool {
	n := r.nodes[number]
	allowed := []int{api.KNumber, api.KTruth, api.KName, api.KNeg, api.KNot, api.KBinary}
	if n.Text == "/" || n.Text == "%" {
		if right := r.told.values[n.Kids[1]]; right.State != 1 || right.Num == 0 {
			return false
		}
	}
	return slices.Contains(allowed, n.Kind) && !slices.ContainsFunc(n.Kids, func(kid int) bool { return !r.calm(kid) })
}

// each writes nodes, with something between each two.
func (r trimmer) each(numbers []int, between string, write func(int) string) string {
	var parts []string
	for _, number := range numbers {
		parts = append(parts, write(number))
	}
	return strings.Join(parts, between)
}

func (r trimmer) decl(number int) string {
	n := r.nodes[number]
	switch n.Kind {
	case api.KStruct:
		return "type " + n.Text + " struct {" + r.each(n.Kids, ";", r.named) + "}"
	case api.KIface:
		return "type " + n.Text + " interface {" + r.each(n.Kids, ";", r.named) + "}"
	case api.KFunc:
		return "func " + n.Text + r.sig(n.Kids[0]) + r.block(n.Kids[1])
	}
	return "func (" + r.named(n.Kids[0]) + ") " + n.Text + r.sig(n.Kids[1]) + r.block(n.Kids[2])
}

// named writes a field, a param, or an interface's method.
func (r trimmer) named(number int) string {
	n := r.nodes[number]
	if n.Kind == api.KMethodSig {
		return n.Text + r.sig(n.Kids[0])
	}
	return n.Text + " " + r.types[n.Kids[0]]
}

func (r trimmer) sig(number int) string {
	n := r.nodes[number]
	back := func(typ int) string { return " " + r.types[typ] }
	return "(" + r.each(n.Kids[:n.Num], ",", r.named) + ")" + r.each(n.Kids[n.Num:], "", back)
}

func (r trimmer) block(number int) string {
	return "{" + r.stmts(r.nodes[number].Kids) + "}"
}

func (r trimmer) stmts(numbers []int) string {
	text := ""
	for _, number := range numbers {
		if stmt := r.stmt(number); stmt != "" {
			text += stmt + ";"
		}
	}
	return text
}

// stmt writes a statement; nothing, if it is taken away.
func (r trimmer) stmt(number int) string {
	n := r.nodes[number]
	if r.told.goes[number] == 0 {
		r.counts["rests"]++
		return ""
	}
	switch n.Kind {
	case api.KIf:
		return r.branches(n)
	case api.KFor:
		if num, sure := r.sure(n.Kids[0]); sure && num == 0 {
			r.counts["for 0"]++
			return ""
		}
		return "for " + r.expr(n.Kids[0]) + r.block(n.Kids[1])
	case api.KDefine:
		return n.Text + ":=" + r.expr(n.Kids[0])
	case api.KAssign:
		return r.left(n.Kids[0]) + "=" + r.expr(n.Kids[1])
	case api.KSend:
		return "(" + r.expr(n.Kids[0]) + ")<-" + r.expr(n.Kids[1])
	case api.KReturn:
		return "return " + r.each(n.Kids, "", r.expr)
	case api.KSelect:
		return "select {" + r.each(n.Kids, "", r.selectCase) + "}"
	case api.KClose, api.KPanic, api.KPrint:
		return map[int]string{api.KClose: "close", api.KPanic: "panic", api.KPrint: "print"}[n.Kind] + "(" + r.expr(n.Kids[0]) + ")"
	case api.KBreak:
		return "break"
	case api.KGo:
		return "go " + r.expr(n.Kids[0])
	}
	return r.expr(n.Kids[0])
}

func (r trimmer) left(number int) string {
	n := r.nodes[number]
	if n.Kind == api.KName {
		return n.Text
	}
	return "(" + r.expr(n.Kids[0]) + ")." + n.Text
}

// branches writes a KIf; nothing, if it is taken away.
func (r trimmer) branches(n api.Node) string {
	num, sure := r.sure(n.Kids[0])
	hasElse := len(n.Kids) == 3
	elseIf := hasElse && r.nodes[n.Kids[2]].Kind == api.KIf
	switch {
	case sure && num == 1:
		r.counts["if 1"]++
		return "if true" + r.block(n.Kids[1])
	case sure && !hasElse:
		r.counts["if 0"]++
		return ""
	case sure && elseIf:
		r.counts["if 0, else if"]++
		return "if true{" + r.stmts(n.Kids[2:]) + "}"
	case sure:
		r.counts["if 0, else"]++
		return "if true" + r.block(n.Kids[2])
	}
	text := "if " + r.expr(n.Kids[0]) + r.block(n.Kids[1])
	if elseIf {
		if other := r.stmt(n.Kids[2]); other != "" {
			return text + " else " + other
		}
		r.counts["loses"]++
		return text
	}
	if hasElse {
		text += " else " + r.block(n.Kids[2])
	}
	return text
}

func (r trimmer) selectCase(number int) string {
	n := r.nodes[number]
	head := "default"
	switch n.Kind {
	case api.KCaseRecv:
		head = "case <-" + r.expr(n.Kids[0])
		if n.Text != "" {
			head = "case " + n.Text + ":=<-" + r.expr(n.Kids[0])
		}
	case api.KCaseSend:
		head = "case (" + r.expr(n.Kids[0]) + ")<-" + r.expr(n.Kids[1])
	}
	return head + ":" + r.stmts(r.nodes[n.Kids[len(n.Kids)-1]].Kids)
}

// expr writes an expression, so that it can stand anywhere.
func (r trimmer) expr(number int) string {
	n := r.nodes[number]
	num, sure := r.sure(number)
	isOld := n.Kind == api.KNumber || n.Kind == api.KTruth
	switch {
	case sure && r.types[number] == "bool":
		if !isOld {
			r.counts["truth"]++
		}
		return []string{"false", "true"}[num]
	case sure && max(num, -num) <= 999999999 && num > -1<<63:
		if !isOld {
			r.counts["number "+strconv.FormatBool(num < 0)]++
		}
		return strconv.Itoa(num)
	case sure:
		r.counts["too great"]++
	case r.told.values[number].State == 1:
		r.counts["not sure"]++
	}
	switch n.Kind {
	case api.KNumber:
		return strconv.Itoa(n.Num)
	case api.KTruth:
		return []string{"false", "true"}[n.Num]
	case api.KNot, api.KNeg, api.KRecv:
		return "(" + map[int]string{api.KNot: "!", api.KNeg: "-", api.KRecv: "<-"}[n.Kind] + r.expr(n.Kids[0]) + ")"
	case api.KBinary:
		return "(" + r.expr(n.Kids[0]) + " " + n.Text + " " + r.expr(n.Kids[1]) + ")"
	}
	return r.first(n)
}

func (r trimmer) first(n api.Node) string {
	switch n.Kind {
	case api.KNil:
		return "nil"
	case api.KDot:
		return r.expr(n.Kids[0]) + "." + n.Text
	case api.KCall:
		return r.expr(n.Kids[0]) + "(" + r.each(n.Kids[1:], ",", r.expr) + ")"
	case api.KAssert:
		return r.expr(n.Kids[0]) + ".(" + r.types[n.Kids[1]] + ")"
	case api.KLit:
		return "func" + r.sig(n.Kids[0]) + r.block(n.Kids[1])
	case api.KNew:
		return "new(" + n.Text + ")"
	case api.KMake:
		return "make(chan " + r.types[n.Kids[0]] + "," + strconv.Itoa(n.Num) + ")"
	}
	return n.Text
}

// chains writes ifs behind elses, and what is done there, by chance. In all of them x, y, z are always the same, z a great number; p is any number, q any truth value.
type chains struct {
	*rand.Rand
	left int // how much more is to be written
}

func (c *chains) one(texts ...string) string { return texts[c.Intn(len(texts))] }

// condition writes one that is sure to be 0, to be 1, is always so, but not sure, or any.
func (c *chains) condition() string {
	switch c.Intn(8) {
	case 0, 1:
		return c.one("x == 1", "y > 2", "false", "z < 0", "!(x < y)", "q && false", "p / y == 1 && false", "x % 2 == 1", "z == z + 1")
	case 2, 3:
		return c.one("x != 1", "y == 2", "true", "z > 1", "x / y == -3", "q || true", "p % x > 1 || x < 0", "-z < 0", "!q || !false")
	case 4:
		return c.one("h(1) > 2 && false", "a.n / p > 1 && x > 0", "false && 1 / 2 == 0", "a == nil && x > y", "5 / (x + 7) > 9 && h(y) > 0")
	case 5:
		return c.one("h(1) > 2 || true", "1 % p == 0 || y == 2", "true || x / y > 1", "a.n > x || x < 0")
	}
	return c.one("q", "p > x", "h(y) > x", "a == nil", "q && x < y", "a.n < p", "!q || false")
}

func (c *chains) num(deep int) string {
	switch {
	case deep > 0 && c.Intn(2) == 0:
		return "(" + c.num(deep-1) + c.one(" + ", " - ", " * ", " / ", " % ") + c.num(deep-1) + ")"
	case deep > 0 && c.Intn(6) == 0:
		return "-" + c.num(deep-1)
	case deep > 0 && c.Intn(6) == 0:
		return c.one("h", "func(n int) int { x := 4; return x + 1 - n }", "a.m") + "(" + c.num(deep-1) + ")"
	}
	return c.one("x", "x", "y", "y", "z", "p", "a.n", "3", "0", "1000", "999999999")
}

func (c *chains) stmt(deep int) string {
	c.left--
	if deep > 0 && c.left > 0 {
		switch c.Intn(6) {
		case 0, 1:
			return c.chain(deep)
		case 2:
			return "for " + c.condition() + " { " + c.stmts(deep-1) + c.one("break", "break", "p = p - 1; if p < 0 { return 1 }") + " }"
		case 3:
			return c.one("select { case e <- "+c.num(1)+": "+c.stmts(deep-1)+"case w := <-e: "+c.stmts(deep-1)+"}", "go func() { "+c.stmts(deep-1)+"}()", "if q { "+c.stmts(deep-1)+"return x; print(x) }")
		}
	}
	return c.one("print("+c.num(3)+")", "print("+c.num(2)+")", "print("+c.condition()+")", "a.n = "+c.num(2), "b(x + y).n = "+c.num(1), "e <- "+c.num(1), "h("+c.num(2)+")")
}

func (c *chains) stmts(deep int) string {
	text := ""
	for range 1 + c.Intn(3) {
		text += c.stmt(deep) + "; "
	}
	return text
}

func (c *chains) chain(deep int) string {
	text := "if " + c.condition() + " { " + c.one("", c.stmts(deep-1), c.stmts(deep-1)) + "}"
	for range c.Intn(4) {
		text += " else if " + c.condition() + " { " + c.one("", c.stmts(deep-1), c.stmts(deep-1)) + "}"
	}
	return text + c.one("", " else { "+c.one("", c.stmts(deep-1))+"}")
}

// chainMade answers such a program that may be.
func chainMade(r *rand.Rand) string {
	for {
		c := &chains{r, 10 + r.Intn(40)}
		text := "type A struct { n int }\nfunc (a *A) m(n int) int { return a.n + n }\nfunc b(n int) *A { return new(A) }\nfunc h(n int) int { print(n); return n }\n" +
			"func f(p int, q bool, e chan int) int { a := new(A); x := 0 - 6; y := 2; z := 99999 * 99999; " + c.stmts(4) + c.stmts(3) + "return " + c.num(2) + " }\n" +
			"func main() { e := make(chan int, 8); print(f(3, true, e)); print(f(" + c.one("0", "2", "7") + ", false, e)); go f(1, true, e); f(1, false, e) }"
		// Now and then it is too long, or too great.
		if _, fault := check.Check(text); fault == (api.Fault{}) {
			return text
		}
	}
}

// isOfSize tells whether a fault is that something is too long, too deep, or of too many nodes.
func isOfSize(code api.Errno) bool {
	return code == api.ErrSize || code == api.ErrDeep || code == api.ErrFull
}

// holdFold holds what comes out against the second way, and against that of the printed text; and that it may be, and is in the one form. It answers what comes out; nothing, if it may not be.
func holdFold(t *testing.T, text string, counts map[string]int) string {
	t.Helper()
	got, fault := fold.Fold(text)
	if _, want := check.Check(text); fault != want || fault.Code != api.OK && got != "" {
		t.Fatalf("%v, not %v, and %q of\n%s", fault, want, got, text)
	}
	if fault.Code != api.OK {
		return ""
	}
	r := newTrimmer(text)
	want, fault := syntax.Print(r.each(r.nodes[len(r.nodes)-1].Kids, ";", r.decl))
	switch {
	case fault.Code == api.OK:
		counts["held"]++
		if got != want {
			t.Fatalf("\n%s, not\n%s of\n%s", got, want, text)
		}
	case !isOfSize(fault.Code):
		t.Fatalf("%v of\n%s", fault, text)
	}
	for what, many := range r.counts {
		counts[what] += many
	}
	printed, _ := syntax.Print(text)
	if other, fault := fold.Fold(printed); fault.Code == api.OK && got != other {
		t.Fatalf("\n%s, not\n%s when it is printed, of\n%s", got, other, text)
	}
	if _, fault = check.Check(got); fault.Code != api.OK {
		if !isOfSize(fault.Code) {
			t.Fatalf("%v of\n%s of\n%s", fault, got, text)
		}
		return ""
	}
	if again, _ := syntax.Print(got); got != again {
		t.Fatalf("\n%s is printed as\n%s", got, again)
	}
	return got
}

// withoutNodes answers the events, but for the nodes.
func withoutNodes(trace api.Trace) []api.Event {
	events := slices.Clone(trace.Events)
	for i := range events {
		events[i].Node = 0
	}
	return events
}

// holdRunsAs holds that a folded program runs as the first one, by a script, and answers how that one ends.
func holdRunsAs(t *testing.T, text, folded string, script []int) int {
	t.Helper()
	first, one := run.Run(text, script)
	second, other := run.Run(folded, script)
	if one.Code != api.OK || other.Code != api.OK {
		t.Fatalf("%v, %v of\n%s", one, other, text)
	}
	a, b := withoutNodes(first), withoutNodes(second)
	same := first.Status == second.Status
	if first.Status == api.Out || second.Status == api.Out {
		fewer := min(len(a), len(b))
		a, b, same = a[:fewer], b[:fewer], true
	}
	if !same || !slices.Equal(a, b) {
		t.Fatalf("by %v:\n%v, not\n%v of\n%sof\n%s", script, second, first, folded, text)
	}
	return first.Status
}

// TestFoldAgain holds what is made of made programs against the second way, and their runs against those of the first ones.
func TestFoldAgain(t *testing.T) {
	r := rand.New(rand.NewSource(26))
	counts := map[string]int{}
	ends := map[int]int{} // by Status
	less := 0
	for round := range 1200 {
		text := []string{sureMade(r), chainMade(r)}[round%2]
		if round%5 == 0 {
			text = []string{made(r), livelyMade(r), setterMade(r), roundMade(r), racyMade(r), thingsMade(r), deedsMade(r)}[r.Intn(7)]
		}
		folded := holdFold(t, text, counts)
		if folded == "" {
			counts["may not be"]++
			continue
		}
		if printed, _ := syntax.Print(text); len(folded) < len(printed) {
			less++
		}
		for range 3 {
			ends[holdRunsAs(t, text, folded, scriptOf(r))]++
		}
		// It can be folded again, as it is a program like all others.
		if more := holdFold(t, folded, map[string]int{}); more != "" {
			holdRunsAs(t, folded, more, scriptOf(r))
		}
		holdFold(t, spoilt(r, text), map[string]int{})
	}
	for _, what := range []string{"rests", "for 0", "if 1", "if 0", "if 0, else if", "if 0, else", "loses", "truth", "number false", "number true", "too great", "not sure"} {
		if counts[what] < 50 {
			t.Error("too few of these:", what, counts[what])
		}
	}
	for status := api.Done; status <= api.Out; status++ {
		if ends[status] < 50 {
			t.Error("too few runs end so:", status, ends[status])
		}
	}
	if counts["held"] < 1150 || less < 700 || counts["may not be"] > 20 {
		t.Error("too few are held against the second way, get less, may be:", counts["held"], less, counts["may not be"])
	}
}

// FuzzFold holds what comes out of any text against the second way, and a run of it.
func FuzzFold(f *testing.F) {
	r := rand.New(rand.NewSource(27))
	for range 20 {
		f.Add(chainMade(r), []byte{1, 2, 3})
		f.Add(sureMade(r), []byte{1, 0, 4, 2, 1, 1})
	}
	f.Fuzz(func(t *testing.T, text string, picks []byte) {
		folded := holdFold(t, text, map[string]int{})
		if folded == "" {
			return
		}
		var script []int
		for _, pick := range picks {
			script = append(script, int(int8(pick)))
		}
		holdRunsAs(t, text, folded, script)
	})
}
