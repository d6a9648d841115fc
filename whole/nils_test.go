package whole

import (
	"maps"
	"math/rand"
	"reflect"
	"slices"
	"strconv"
	"testing"

	"ravel/api"
	"ravel/check"
	"ravel/nils"
	"ravel/run"
	"ravel/syntax"
)

// voids writes programs in which nil comes to some places, and not to others, by chance. Each variable has a name of its own, so that it does not come to all of them.
type voids struct {
	*rand.Rand
	left  int                 // how much more is to be written
	count int                 // names of variables
	first int                 // the first of the functions that may be called: so they do not go round
	names map[string][]string // by types, those that are there
}

// voidFunctions and voidMethods are how many there are: to each of them comes little.
const (
	voidFunctions = 6
	voidMethods   = 4
)

func (v *voids) one(texts ...string) string { return texts[v.Intn(len(texts))] }

// name answers a new variable.
func (v *voids) name(typ string) string {
	v.count++
	name := "v" + strconv.Itoa(v.count)
	v.names[typ] = append(slices.Clone(v.names[typ]), name)
	return name
}

// within writes something in which more variables are there than behind it.
func (v *voids) within(write func() string) string {
	names := maps.Clone(v.names)
	text := write()
	v.names = names
	return text
}

// fresh writes what is made anew.
func (v *voids) fresh(typ string) string {
	switch typ {
	case "*A":
		return "new(A)"
	case "I":
		return "func() I { return " + v.one("new(A)", "new(B)") + " }()"
	case "c":
		return "make(chan *A, " + v.one("1", "2", "3") + ")"
	}
	return v.one(v.function(), "func(x *A) *A { return x }", "func(x *A) *A { return new(A) }", v.one(v.of("*A"), "new(B)")+".m")
}

func (v *voids) function() string {
	return "f" + strconv.Itoa(v.first+v.Intn(voidFunctions-v.first))
}

func (v *voids) method() string { return "o" + strconv.Itoa(v.Intn(voidMethods)) }

// of writes a variable of a type, or what is made anew.
func (v *voids) of(typ string) string {
	list := v.names[typ]
	if len(list) == 0 || v.Intn(8) == 0 {
		return v.fresh(typ)
	}
	return list[v.Intn(len(list))]
}

// source writes what can be nil.
func (v *voids) source(typ string) string {
	switch typ {
	case "*A":
		return v.one(v.of("*A")+".n", v.function()+"("+v.of("*A")+")", v.function()+"("+v.maybe("*A")+")", v.of("f")+"("+v.of("*A")+")", v.of("I")+".m("+v.of("*A")+")", v.of("*A")+"."+v.method()+"()",
			v.of("I")+".(*A)", "func() *A { if 1 < 2 { return new(A) } }()", "func() *A { return nil }()", "func(x *A) *A { return x }(nil)", "func() *A {}()")
	case "I":
		return v.one(v.of("*A")+".i", "func() I { return nil }()", "func(i I) I { return i }("+v.maybe("*A")+")")
	case "c":
		return v.one(v.of("*A")+".c", "func() chan *A { if 2 < 1 { return make(chan *A) } }()")
	}
	return v.one(v.of("*A")+".f", "func() func(*A) *A { return nil }()")
}

func (v *voids) maybe(typ string) string {
	if v.Intn(12) == 0 {
		return "nil"
	}
	return v.of(typ)
}

func (v *voids) typ() string { return v.one("*A", "*A", "*A", "I", "c", "f") }

func (v *voids) define() string {
	// What stands right is written first: there the new name is not known yet.
	typ := v.typ()
	value := v.one(v.fresh(typ), v.fresh(typ), v.of(typ), v.of(typ), v.source(typ))
	if value == "nil" {
		value = v.fresh(typ)
	}
	return v.name(typ) + " := " + value
}

// pass writes statements by which something goes through a channel.
func (v *voids) pass() string {
	value, from := v.maybe("*A"), v.of("c")
	switch v.Intn(11) {
	case 0:
		c := v.name("c")
		return c + " := make(chan *A, 2); " + c + " <- " + value + "; " + v.name("*A") + " := <-" + c
	case 1:
		c := v.name("c")
		return c + " := make(chan *A, 1); select { case " + c + " <- " + v.one(value, "nil") + ": default: }; " + v.name("*A") + " := <-" + c
	case 2:
		c := "d" + v.name("*A")
		return c + " := make(chan *A, 1); close(" + c + "); " + v.name("*A") + " := <-" + c
	case 3:
		c := v.name("c")
		return c + " := make(chan *A); go func() { " + c + " <- " + value + " }(); " + v.name("*A") + " := <-" + c
	case 4:
		return "select { case " + from + " <- " + value + ": default: }"
	case 5:
		return "close(" + v.of("c") + ")"
	case 6, 7:
		c := v.name("c")
		return c + " := make(chan *A, 1); " + v.one(c+" <- "+value, "close("+c+")") + "; select { case x := <-" + c + ": " + v.one("print(x.k)", "if x != nil { x.k = 1 }", v.of("*A")+".n = x") + " }"
	case 8:
		return "select { case x := <-" + from + ": " + v.one("print(x.k)", "if x != nil { x.k = 1 }", v.of("*A")+".n = x") + "; default: }"
	}
	return v.within(func() string {
		return "select { case " + v.name("*A") + " := <-" + from + ": " + v.stmts(1) + "default: }"
	})
}

// use writes a statement that falls, if something is nil; mostly it is asked first.
func (v *voids) use() string {
	typ := v.typ()
	name := v.one(v.of(typ), v.of(typ), v.of(typ), v.source(typ))
	text := map[string]string{
		"*A": v.one(name+".k = 1", "print("+name+".k)", name+".n = "+v.maybe("*A"), name+".i = "+v.one("new(B)", v.maybe("*A")), name+".f = "+v.maybe("f"), name+".c = "+v.maybe("c")),
		"I":  v.one(name+".m("+v.maybe("*A")+")", "print("+name+".(*A).k)", "go "+name+".m("+v.of("*A")+")", "print("+name+".m != nil)"),
		"c":  "close(" + name + ")",
		"f":  v.one(name+"("+v.maybe("*A")+")", "go "+name+"("+v.of("*A")+")"),
	}[typ]
	if v.Intn(3) > 0 {
		return "if " + name + " != nil { " + text + " }"
	}
	return text
}

func (v *voids) assign() string {
	typ := v.typ()
	list := v.names[typ]
	if len(list) == 0 {
		return "print(2)"
	}
	return list[v.Intn(len(list))] + " = " + v.one(v.of(typ), v.of(typ), v.source(typ), v.maybe(typ))
}

func (v *voids) stmt(deep int) string {
	v.left--
	if deep <= 0 || v.left <= 0 {
		return v.one(v.use(), v.assign(), "print(3)")
	}
	switch v.Intn(14) {
	case 0, 1, 2, 3:
		return v.define()
	case 4, 5:
		return v.assign()
	case 6, 7:
		return v.pass()
	case 8:
		return "if " + v.one("true", v.of("*A")+" == "+v.of("*A")) + " { " + v.within(func() string { return v.stmts(deep - 1) }) + "}"
	case 9:
		return v.one("go ", "") + "func() { " + v.within(func() string { return v.stmts(deep - 1) }) + "}()"
	case 10:
		return v.function() + "(" + v.maybe("*A") + ")"
	case 11:
		return v.of("*A") + "." + v.method() + "()"
	}
	return v.use()
}

func (v *voids) stmts(deep int) string {
	text := ""
	for range 1 + v.Intn(3) {
		text += v.stmt(deep) + "; "
	}
	return text
}

// tail writes how a function ends that has a param x.
func (v *voids) tail() string {
	return v.one("return x", "return x", "return new(A)", "return new(A)", "return nil", "if x == nil { return new(A) } else { return x }", "if x != nil { return x }", "for true { return x }", "panic(1)", "return x; print(1)",
		"select { case y := <-make(chan *A): return y; default: return x }", "return "+v.of("*A"))
}

// voidsMade answers such a program that may be.
func voidsMade(r *rand.Rand) string {
	for {
		v := &voids{Rand: r, left: 10 + r.Intn(20), names: map[string][]string{}}
		body := func(write func() string) string {
			return v.within(func() string {
				v.names["*A"] = []string{"x"}
				return " { " + v.one("", v.stmt(1)+"; ", v.stmt(2)+"; ") + write() + " }\n"
			})
		}
		text := "type A struct { n *A; i I; c chan *A; f func(*A) *A; k int }\ntype B struct { k int }\ntype I interface { m(a *A) *A }\n" +
			"func (x *A) m(y *A) *A { return " + v.one("x", "y", "new(A)") + " }\nfunc (z *B) m(x *A) *A {" + v.one(" return x ", " return new(A) ", "") + "}\n"
		for number := range voidMethods {
			text += "func (x *A) o" + strconv.Itoa(number) + "() *A {" + v.one(" return x ", " return x ", " return new(A) ", " if x != nil { return x.n } ", " return x.n ") + "}\n"
		}
		for v.first = 1; v.first < voidFunctions; v.first++ {
			text += "func f" + strconv.Itoa(v.first-1) + "(x *A) *A" + body(v.tail)
		}
		v.first = 0
		text += "func f" + strconv.Itoa(voidFunctions-1) + "(x *A) *A { return " + v.one("x", "x", "new(A)", "nil", "x.n") + " }\n"
		v.left = 25 + r.Intn(30)
		text += "func main() { "
		for range 5 + r.Intn(5) {
			text += v.stmts(3)
		}
		text += "print(0); print(0) }\n"
		// Now and then names are there twice in a block, or it is too long.
		if _, fault := check.Check(text); fault == (api.Fault{}) {
			return text
		}
	}
}

// This is a second way to tell what can be nil: all nodes are gone through again and again, with where it can be by then, until it comes nowhere new.

// nilRules are those by which it comes somewhere. That it is assigned to fields needs none: it is there from the beginning on.
var nilRules = []string{"nil", "fields", "closed", "left", "name", "define", "assign", "dot", "recv", "case recv", "send", "case send", "value", "own", "return", "call"}

type nilsAgain struct {
	*spots
	without string // a rule that is not taken
	can     map[spot]bool
}

func (s *spots) lookNils(without string) nilsAgain {
	a := nilsAgain{s, without, map[spot]bool{}}
	for before := -1; before < len(a.can); {
		before = len(a.can)
		for number := range s.nodes {
			a.node(number)
		}
		for pair := range s.pairs {
			a.pair(pair[0], pair[1])
		}
	}
	return a
}

// give lets nil be somewhere by a rule, if something holds.
func (a nilsAgain) give(rule string, is bool, to spot) {
	if is && rule != a.without {
		a.can[to] = true
	}
}

func (a nilsAgain) node(number int) {
	n, here := a.nodes[number], spot{node: number}
	at := func(place int) bool { return a.can[spot{node: n.Kids[place]}] }
	inside := func(name string) bool {
		return slices.ContainsFunc(a.at(n.Kids[0]), func(site int) bool { return a.can[spot{site, true, name}] })
	}
	switch n.Kind {
	case api.KNil:
		a.give("nil", true, here)
	case api.KNew:
		for _, field := range a.nodes[slices.IndexFunc(a.nodes, func(d api.Node) bool { return d.Kind == api.KStruct && d.Text == n.Text })].Kids {
			kind := a.kind(a.nodes[field].Kids[0])
			a.give("fields", kind != api.KInt && kind != api.KBool, spot{number, true, a.nodes[field].Text})
		}
	case api.KClose:
		for _, site := range a.at(n.Kids[0]) {
			a.give("closed", true, spot{node: site, inside: true})
		}
	case api.KName:
		a.give("name", a.can[spot{node: a.uses[number]}], here)
	case api.KDefine:
		a.give("define", at(0), here)
	case api.KAssign:
		if left := n.Kids[0]; a.kind(left) == api.KName {
			a.give("assign", at(1), spot{node: a.uses[left]})
		} else {
			for _, site := range a.at(a.nodes[left].Kids[0]) {
				a.give("assign to field", at(1), spot{site, true, a.nodes[left].Text})
			}
		}
	case api.KDot:
		a.give("dot", a.isField(number) && inside(n.Text), here)
	case api.KRecv:
		a.give("recv", inside(""), here)
	case api.KCaseRecv:
		a.give("case recv", inside(""), here)
	case api.KSend, api.KCaseSend:
		for _, site := range a.at(n.Kids[0]) {
			a.give(map[int]string{api.KSend: "send", api.KCaseSend: "case send"}[n.Kind], at(1), spot{node: site, inside: true})
		}
	case api.KReturn:
		a.give("return", len(n.Kids) > 0 && at(0), spot{node: a.sig(a.function(number))})
	case api.KFunc, api.KMethod, api.KLit:
		for station := range a.come(number, -1, map[int]bool{}) {
			sig := a.sig(number)
			a.give("left", a.kind(station) != api.KReturn && slices.Contains(a.next(station), sig), spot{node: sig})
		}
	}
}

// pair hands nil over, and back, where a call can call a function.
func (a nilsAgain) pair(call, function int) {
	sig, kids := a.sig(function), a.nodes[call].Kids
	for place, value := range kids[1:] {
		a.give("value", a.can[spot{node: value}], spot{node: a.nodes[sig].Kids[place]})
	}
	a.give("call", a.can[spot{node: sig}], spot{node: call})
	for _, site := range a.at(kids[0]) {
		n := a.nodes[site]
		if n.Kind == api.KDot && a.types[n.Kids[0]][0] == '*' && a.method(a.types[n.Kids[0]][1:], n.Text) == function {
			a.give("own", a.can[spot{node: n.Kids[0]}], spot{node: a.nodes[function].Kids[0]})
		}
	}
}

// typeAt answers the type of what is at a node of which it is told whether it can be nil.
func (s *spots) typeAt(number int) string {
	n := s.nodes[number]
	switch kind := n.Kind; {
	case kind >= api.KNumber && kind <= api.KBinary:
		return s.types[number]
	case kind == api.KDefine, kind == api.KParam:
		return s.types[n.Kids[0]]
	case kind == api.KCaseRecv:
		return s.types[n.Kids[0]][len("chan "):]
	case kind == api.KSig && n.Num < len(n.Kids):
		return s.types[n.Kids[n.Num]]
	}
	return ""
}

func (s *spots) isOfThings(number int) bool {
	return !slices.Contains([]string{"", "int", "bool"}, s.typeAt(number))
}

// nilsTold has what is told of what can be nil.
type nilsTold struct {
	can, falls []int
}

func (n nilsTold) equal(other nilsTold) bool {
	return slices.Equal(n.can, other.can) && slices.Equal(n.falls, other.falls)
}

// tell answers what is to be told.
func (a nilsAgain) tell() nilsTold {
	told := nilsTold{can: make([]int, len(a.nodes))}
	for number, n := range a.nodes {
		if a.can[spot{node: number}] && a.isOfThings(number) {
			told.can[number] = 1
		}
		if a.canFall(number) && a.can[spot{node: n.Kids[0]}] {
			told.falls = append(told.falls, number)
		}
	}
	return told
}

// canFall tells whether a run falls at a node, if what stands first is nil.
func (s *spots) canFall(number int) bool {
	switch n := s.nodes[number]; n.Kind {
	case api.KDot:
		return s.isField(number) || s.types[n.Kids[0]][0] != '*'
	case api.KAssert, api.KCall, api.KClose:
		return true
	}
	return false
}

// nilsOf asks the faces; both answer one fault.
func nilsOf(t *testing.T, text string) (nilsTold, api.Fault) {
	t.Helper()
	can, first := nils.Can(text)
	falls, second := nils.Falls(text)
	if first != second {
		t.Fatalf("%v, %v of\n%s", first, second, text)
	}
	return nilsTold{can, falls}, first
}

// holdNils holds what is told of what can be nil in a text's program against the second way, and against that of the printed text, which has the same nodes.
func holdNils(t *testing.T, text string) (nilsTold, *spots) {
	t.Helper()
	got, fault := nilsOf(t, text)
	if _, want := check.Check(text); fault != want {
		t.Fatalf("%v, not %v of\n%s", fault, want, text)
	}
	if fault.Code != api.OK {
		if !got.equal(nilsTold{}) {
			t.Fatalf("%v and %v of\n%s", fault, got, text)
		}
		return got, nil
	}
	spots := newSpots(text)
	if want := spots.lookNils("").tell(); !got.equal(want) {
		t.Fatalf("%v, not\n%v of\n%s", got, want, text)
	}
	printed, _ := syntax.Print(text)
	if other, fault := nilsOf(t, printed); fault.Code == api.OK && !got.equal(other) {
		t.Fatalf("%v, not\n%v when it is printed, of\n%s", got, other, text)
	}
	return got, spots
}

// holdVoids holds that in a run nil is just where it can be, and that the run falls for its sake just where it is told. It answers at which nodes nil was, and where it fell so, or -1.
func holdVoids(t *testing.T, text string, script []int, told nilsTold, s *spots) (seen map[int]bool, fell int) {
	t.Helper()
	m, _ := readAgain(text)
	seen = map[int]bool{}
	m.sees = func(where spot, held any) {
		if where.inside || held != nil || !s.isOfThings(where.node) {
			return
		}
		if told.can[where.node] == 0 {
			t.Fatalf("nil is at %d, by %v, of\n%s", where.node, script, text)
		}
		seen[where.node] = true
	}
	trace, _ := m.run(script)
	if plain, _ := run.Run(text, script); !reflect.DeepEqual(trace, plain) {
		t.Fatalf("%v, not %v of\n%s", trace, plain, text)
	}
	// A KCall, a KAssert, a KClose may fall for another thing's sake; but then nil was never there.
	if trace.Status != api.Fell || !s.canFall(trace.At) || !seen[s.nodes[trace.At].Kids[0]] {
		if trace.Status == api.Fell && s.kind(trace.At) == api.KDot {
			t.Fatalf("%d falls, where nil was not, by %v, of\n%s", trace.At, script, text)
		}
		return seen, -1
	}
	if !slices.Contains(told.falls, trace.At) {
		t.Fatalf("%d falls for nil's sake, by %v, of\n%s", trace.At, script, text)
	}
	return seen, trace.At
}

// TestNilsAgain holds what can be nil in made programs against the second way, and against their runs; each rule has to matter often enough, also for what is nil in runs.
func TestNilsAgain(t *testing.T) {
	r := rand.New(rand.NewSource(44))
	can, cannot, falls, fallsNot := map[int]int{}, map[int]int{}, map[int]int{}, map[int]int{}
	seenAt, fellAt := map[int]int{}, map[int]int{}
	turned, needed := map[string]int{}, map[string]int{} // by rules: in how many programs it would be otherwise without; how often nil is in runs where it would not be told
	for round := range 400 {
		text := voidsMade(r)
		if round%4 == 0 {
			text = []string{made(r), livelyMade(r), thingsMade(r), giftsMade(r), boxesMade(r), meetsMade(r)}[r.Intn(6)]
		}
		told, spots := holdNils(t, text)
		for number, n := range spots.nodes {
			if spots.isOfThings(number) {
				can[n.Kind] += told.can[number]
				cannot[n.Kind] += 1 - told.can[number]
			}
			if spots.canFall(number) && slices.Contains(told.falls, number) {
				falls[n.Kind]++
			} else if spots.canFall(number) {
				fallsNot[n.Kind]++
			}
		}
		all := map[int]bool{}
		for range 4 {
			seen, fell := holdVoids(t, text, scriptOf(r), told, spots)
			maps.Copy(all, seen)
			if fell >= 0 {
				fellAt[spots.kind(fell)]++
			}
		}
		for number := range all {
			seenAt[spots.kind(number)]++
		}
		for _, rule := range nilRules {
			less := spots.lookNils(rule).tell()
			if !less.equal(told) {
				turned[rule]++
			}
			for number := range all {
				needed[rule] += 1 - less.can[number]
			}
		}
		holdNils(t, spoilt(r, text))
	}
	for _, kind := range []int{api.KParam, api.KSig, api.KDefine, api.KCaseRecv, api.KName, api.KDot, api.KCall, api.KRecv} {
		if can[kind] < 80 || cannot[kind] < 80 || seenAt[kind] < 30 {
			t.Error("too few nodes of this kind at which nil can be, can not be, is in runs:", kind, can[kind], cannot[kind], seenAt[kind])
		}
	}
	for _, kind := range []int{api.KDot, api.KCall, api.KAssert, api.KClose} {
		if falls[kind] < 20 || fallsNot[kind] < 60 || fellAt[kind] < 10 {
			t.Error("too few nodes of this kind can fall for nil's sake, can not, do so in runs:", kind, falls[kind], fallsNot[kind], fellAt[kind])
		}
	}
	for _, rule := range nilRules {
		if turned[rule] < 20 || needed[rule] < 25 {
			t.Error("this rule matters too seldom:", rule, turned[rule], needed[rule])
		}
	}
}

// FuzzNils holds any text against the second way, and a run of it.
func FuzzNils(f *testing.F) {
	r := rand.New(rand.NewSource(45))
	for range 20 {
		f.Add(thingsMade(r), []byte{1, 2, 3})
		f.Add(voidsMade(r), []byte{1, 0, 4, 2, 1, 1})
	}
	f.Fuzz(func(t *testing.T, text string, picks []byte) {
		told, spots := holdNils(t, text)
		if spots == nil {
			return
		}
		var script []int
		for _, pick := range picks {
			script = append(script, int(int8(pick)))
		}
		holdVoids(t, text, script, told, spots)
	})
}
