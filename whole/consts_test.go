package whole

import (
	"maps"
	"math/rand"
	"reflect"
	"slices"
	"testing"

	"ravel/api"
	"ravel/check"
	"ravel/consts"
	"ravel/defs"
	"ravel/syntax"
)

// This is a second way to tell what is always the same: statements are gone through as they stand within one another, with what is known of variables, loops again and again until nothing is new.

// guess is what is known of variables; nil, where nobody comes.
type guess map[int]api.Known

// merge answers what is known where both come together.
func (g guess) merge(other guess) guess {
	if g == nil {
		return maps.Clone(other)
	}
	out := maps.Clone(g)
	for variable, value := range other {
		out[variable] = join(out[variable], value)
	}
	return out
}

func join(a, b api.Known) api.Known {
	if a.State == 1 && b.State == 1 && a.Num != b.Num {
		return api.Known{State: 2}
	}
	if a.State > b.State {
		return a
	}
	return b
}

// with answers the same, but for one variable.
func (g guess) with(variable int, value api.Known) guess {
	out := maps.Clone(g)
	out[variable] = value
	return out
}

// guesser has what is found up to now.
type guesser struct {
	machine
	shared []int
	known  []api.Known
	goes   []int
	sig    int     // of the function that is gone through
	breaks []guess // of each loop around, what is known where it is broken off
}

// constsAgain has what is told of a program's values.
type constsAgain struct {
	values []api.Known
	goes   []int
}

func guessAll(text string) constsAgain {
	m, _ := readAgain(text)
	shared, _ := defs.Shared(text)
	g := guesser{machine: m, shared: shared, known: make([]api.Known, len(m.nodes)), goes: make([]int, len(m.nodes))}
	for number, n := range m.nodes {
		if !isBody(n.Kind) {
			continue
		}
		g.sig, g.goes[number] = n.Kids[len(n.Kids)-2], 1
		begin := guess{}
		for _, param := range m.nodes[g.sig].Kids {
			begin[param] = api.Known{State: 2}
		}
		if g.stmt(n.Kids[len(n.Kids)-1], begin) != nil {
			g.goes[g.sig] = 1
		}
	}
	return constsAgain{g.known, g.goes}
}

// stmt goes through a statement, and answers what is known behind it.
func (g *guesser) stmt(number int, in guess) guess {
	n := g.nodes[number]
	if n.Kind == api.KBlock {
		for _, kid := range n.Kids {
			if in != nil {
				in = g.stmt(kid, in)
			}
		}
		return in
	}
	g.goes[number] = 1
	switch n.Kind {
	case api.KDefine:
		return in.with(number, g.expr(n.Kids[0], in))
	case api.KAssign:
		for _, kid := range g.nodes[n.Kids[0]].Kids {
			g.expr(kid, in)
		}
		value := g.expr(n.Kids[1], in)
		if use := g.uses[n.Kids[0]]; use >= 0 {
			return in.with(use, value)
		}
		return in
	case api.KIf:
		return g.branch(n, in)
	case api.KFor:
		return g.loop(n, in)
	case api.KSelect:
		return g.cases(n, in)
	case api.KBreak:
		last := len(g.breaks) - 1
		g.breaks[last] = g.breaks[last].merge(in)
		return nil
	}
	for _, kid := range n.Kids {
		g.expr(kid, in)
	}
	if n.Kind == api.KReturn {
		g.goes[g.sig] = 1
	}
	if n.Kind == api.KReturn || n.Kind == api.KPanic {
		return nil
	}
	return in
}

func (g *guesser) branch(n api.Node, in guess) guess {
	var out guess
	condition := g.expr(n.Kids[0], in)
	if condition.State == 2 || condition.Num == 1 {
		out = out.merge(g.stmt(n.Kids[1], in))
	}
	if condition.State == 2 || condition.Num == 0 {
		if len(n.Kids) == 3 {
			in = g.stmt(n.Kids[2], in)
		}
		out = out.merge(in)
	}
	return out
}

func (g *guesser) loop(n api.Node, in guess) guess {
	for {
		g.breaks = append(g.breaks, nil)
		condition := g.expr(n.Kids[0], in)
		again := in
		if condition.State == 2 || condition.Num == 1 {
			again = in.merge(g.stmt(n.Kids[1], in))
		}
		last := len(g.breaks) - 1
		broken := g.breaks[last]
		g.breaks = g.breaks[:last]
		if maps.Equal(again, in) {
			if condition.State == 2 || condition.Num == 0 {
				return in.merge(broken)
			}
			return broken
		}
		in = again
	}
}

func (g *guesser) cases(n api.Node, in guess) guess {
	var out guess
	for _, branch := range n.Kids {
		kids := g.nodes[branch].Kids
		for _, kid := range kids[:len(kids)-1] {
			g.expr(kid, in)
		}
	}
	for _, branch := range n.Kids {
		kids := g.nodes[branch].Kids
		begin := in
		if g.nodes[branch].Kind == api.KCaseRecv {
			begin = in.with(branch, api.Known{State: 2})
		}
		out = out.merge(g.stmt(kids[len(kids)-1], begin))
	}
	return out
}

// expr finds what is known of an expression.
func (g *guesser) expr(number int, in guess) api.Known {
	var out api.Known
	n := g.nodes[number]
	switch {
	case n.Kind < api.KNumber || n.Kind == api.KLit:
		return out
	case n.Text == "&&" || n.Text == "||":
		out = g.both(n, in)
	default:
		var parts []api.Known
		for _, kid := range n.Kids {
			parts = append(parts, g.expr(kid, in))
		}
		out = g.made(number, parts, in)
	}
	if g.types[number] != "int" && g.types[number] != "bool" {
		out = api.Known{}
	}
	g.known[number] = out
	return out
}

// both goes through all pairs that the sides of a `&&` or `||` can be.
func (g *guesser) both(n api.Node, in guess) api.Known {
	can := func(side api.Known) []int {
		if side.State == 2 {
			return []int{0, 1}
		}
		return []int{side.Num}
	}
	left := g.expr(n.Kids[0], in)
	decides := map[string]int{"&&": 0, "||": 1}[n.Text]
	if slices.Equal(can(left), []int{decides}) {
		return left
	}
	right := g.expr(n.Kids[1], in)
	var out api.Known
	for _, x := range can(left) {
		for _, y := range can(right) {
			one := max(x, y)
			if decides == 0 {
				one = min(x, y)
			}
			out = join(out, api.Known{State: 1, Num: one})
		}
	}
	return out
}

// made answers what is made of parts.
func (g *guesser) made(number int, parts []api.Known, in guess) api.Known {
	n := g.nodes[number]
	use := g.uses[number]
	switch {
	case n.Kind == api.KNumber || n.Kind == api.KTruth:
		return api.Known{State: 1, Num: n.Num}
	case n.Kind == api.KName && g.kindOf(use) != api.KFunc && g.shared[use] == 0:
		return in[use]
	case len(parts) == 0 || slices.ContainsFunc(parts, func(k api.Known) bool { return k.State != 1 }):
		return api.Known{State: 2}
	case n.Kind == api.KNot:
		return api.Known{State: 1, Num: 1 ^ parts[0].Num}
	case n.Kind == api.KNeg:
		return api.Known{State: 1, Num: ^parts[0].Num + 1}
	case n.Kind == api.KBinary:
		m := g.machine
		switch got := m.two(number, int64(parts[0].Num), int64(parts[1].Num)).(type) {
		case int64:
			if !m.over {
				return api.Known{State: 1, Num: int(got)}
			}
		case bool:
			return api.Known{State: 1, Num: map[bool]int{true: 1}[got]}
		}
	}
	return api.Known{State: 2}
}

func (g *guesser) kindOf(number int) int { return g.nodes[number].Kind }

// surely writes functions in which few variables are set to few numbers, by chance. In all of them x, y, z are numbers, b, d are truth values, p is any number, q any truth value, and e is a channel of numbers.
type surely struct {
	setters
}

func (s *surely) name() string { return s.one("x", "x", "y", "y", "z", "p") }

func (s *surely) truthName() string { return s.one("b", "b", "d", "d", "q") }

func (s *surely) num(deep int) string {
	switch s.Intn(12) {
	case 0, 1, 2, 3:
		return s.one("0", "1", "2", "3")
	case 4:
		if deep > 0 {
			return "(" + s.num(deep-1) + s.one(" + ", " - ", " * ", " / ", " % ") + s.num(deep-1) + ")"
		}
	case 5:
		return s.one("-", "-", "h") + "(" + s.name() + ")"
	case 6:
		return s.one("<-e", "h(x)", "h(2)", "a.n", "func() int { return 4 }()", "p", "z * z * 999999999")
	}
	return s.name()
}

func (s *surely) truth(deep int) string {
	switch s.Intn(12) {
	case 0:
		return s.one("true", "false")
	case 1, 2, 3:
		if deep > 0 {
			return "(" + s.truth(deep-1) + s.one(" && ", " || ", " && ", " || ", " == ", " != ") + s.truth(deep-1) + ")"
		}
	case 4, 5, 6, 7:
		return "(" + s.name() + s.one(" == ", " != ", " < ", " <= ", " > ", " >= ") + s.num(deep-1) + ")"
	case 8:
		return s.one("!"+s.truth(deep-1), "a == nil", "a != new(A)", "a.b", "h == nil")
	}
	return s.truthName()
}

func (s *surely) stmts(deep int) string {
	text := ""
	for _, define := range []string{"x := " + s.num(0), "y := " + s.num(0), "b := " + s.truth(0)} {
		if s.Intn(12) == 0 {
			text += define + "; "
		}
	}
	for range 1 + s.Intn(4) {
		if s.left > 0 {
			text += s.stmt(deep) + "; "
		}
	}
	return text
}

func (s *surely) block(deep int) string { return "{ " + s.stmts(deep-1) + "}" }

func (s *surely) stmt(deep int) string {
	s.left--
	if deep > 0 {
		switch s.Intn(18) {
		case 0, 1, 2:
			return "if " + s.truth(2) + " " + s.block(deep)
		case 3, 4:
			return "if " + s.truth(2) + " " + s.block(deep) + " else " + s.block(deep)
		case 5:
			return "if " + s.truth(2) + " " + s.block(deep) + " else if " + s.truth(2) + " " + s.block(deep)
		case 6:
			return "if " + s.truth(2) + s.one(" { }", " { } else { }", " { } else "+s.block(deep))
		case 7, 8, 9:
			return s.loop(deep)
		case 10:
			return "select { case " + s.one("x := <-e", "y := <-e", "<-e", "e <- "+s.num(1)) + ": " + s.stmts(deep-1) + s.one("", "default: "+s.stmts(deep-1), "case y := <-e: "+s.loop(deep-1)+"; ") + "}"
		}
	}
	switch s.Intn(20) {
	case 0, 1:
		if s.loops > 0 {
			return "break"
		}
	case 2:
		return s.one("return", "panic("+s.num(1)+")", "for true { }", "select {}", "print(1)", "print(2)", "print(3)")
	case 3, 4, 5:
		return "print(" + s.one(s.num(2), s.truth(2)) + ")"
	case 6:
		return s.one("a.n = ", "e <- ", "h(x); z = ") + s.num(1)
	case 7, 8, 9, 10:
		return s.one("b", "d") + " = " + s.truth(2)
	}
	return s.one("x", "x", "y", "y", "z") + " = " + s.num(2)
}

func (s *surely) loop(deep int) string {
	s.loops++
	defer func() { s.loops-- }()
	return "for " + s.one(s.truth(1), s.truth(2), "true", "q") + s.one(" { }", " "+s.block(deep), " "+s.block(deep), " "+s.block(deep), " "+s.block(deep))
}

// sureMade answers a program that may be, in which much is always the same.
func sureMade(r *rand.Rand) string {
	for {
		s := surely{setters{Rand: r, left: 5 + r.Intn(50)}}
		text := "type A struct { n int; b bool }\nfunc h(n int) int { return n }\n" +
			"func f(p int, q bool, e chan int) { a := new(A); x := " + s.one("0", "1", "2") + "; y := x; z := 2; b := true; d := !b; " + s.stmts(4) + s.stmts(4) + s.one("", "go func() { print(x); y = 3 }(); ") + s.stmts(4) + "}\n" +
			"func main() { e := make(chan int, 2); e <- 1; go f(1, true, e); f(0, false, e); f(2, " + s.one("true", "false") + ", e) }"
		// Now and then names are there twice in a block, or it is too deep, or too great.
		if _, fault := check.Check(text); fault == (api.Fault{}) {
			return text
		}
	}
}

func (c constsAgain) equal(other constsAgain) bool {
	return slices.Equal(c.values, other.values) && slices.Equal(c.goes, other.goes)
}

// constsOf asks the faces; both answer one fault.
func constsOf(t *testing.T, text string) (constsAgain, api.Fault) {
	t.Helper()
	values, first := consts.Values(text)
	goes, second := consts.Goes(text)
	if first != second {
		t.Fatalf("%v, %v of\n%s", first, second, text)
	}
	return constsAgain{values, goes}, first
}

// holdConsts holds what is told of a text's values against the second way, and against that of the printed text, which has the same nodes.
func holdConsts(t *testing.T, text string) constsAgain {
	t.Helper()
	got, fault := constsOf(t, text)
	if _, want := check.Check(text); fault != want {
		t.Fatalf("%v, not %v of\n%s", fault, want, text)
	}
	if fault.Code != api.OK {
		if !got.equal(constsAgain{}) {
			t.Fatalf("%v and %v of\n%s", fault, got, text)
		}
		return got
	}
	if want := guessAll(text); !got.equal(want) {
		t.Fatalf("%v, not\n%v of\n%s", got, want, text)
	}
	printed, _ := syntax.Print(text)
	if other, fault := constsOf(t, printed); fault.Code == api.OK && !got.equal(other) {
		t.Fatalf("%v, not\n%v when it is printed, of\n%s", got, other, text)
	}
	return got
}

// holdSame holds that in a run values are as is told, and just stations go of which it is told. It answers at how many nodes the run has what is always the same, and what is any.
func holdSame(t *testing.T, text string, script []int, told constsAgain) (int, int) {
	t.Helper()
	m, _ := readAgain(text)
	seen := map[int]bool{}
	m.sees = func(where spot, held any) {
		number, isNumber := held.(int64)
		truth, isTruth := held.(bool)
		if where.inside || m.nodes[where.node].Kind < api.KNumber || !isNumber && !isTruth {
			return
		}
		if truth {
			number = 1
		}
		seen[where.node] = true
		if k := told.values[where.node]; k != (api.Known{State: 1, Num: int(number)}) && k.State != 2 {
			t.Fatalf("%d is at %d, not %v, in\n%s", number, where.node, k, text)
		}
	}
	m.goes = func(way []int, station int) {
		if told.goes[way[0]] != 1 || told.goes[station] != 1 {
			t.Fatalf("%d goes, or %d, in\n%s", way[0], station, text)
		}
	}
	trace, _ := m.run(script)
	m.sees, m.goes = nil, nil
	if plain, _ := m.run(script); !reflect.DeepEqual(trace, plain) {
		t.Fatalf("%v, not %v of\n%s", trace, plain, text)
	}
	states := map[int]int{}
	for node := range seen {
		states[told.values[node].State]++
	}
	return states[1], states[2]
}

// TestConstsAgain holds what is always the same in made programs against the second way, and against their runs.
func TestConstsAgain(t *testing.T) {
	r := rand.New(rand.NewSource(20))
	states, reckoned, resting, always, anyOf := map[int]int{}, 0, 0, 0, 0
	for round := range 1000 {
		text := sureMade(r)
		if round%5 == 0 {
			text = []string{made(r), livelyMade(r), setterMade(r), roundMade(r)}[r.Intn(4)]
		}
		told := holdConsts(t, text)
		nodes, _ := syntax.Parse(text)
		flow, _ := flowOf(t, text)
		for number, n := range nodes {
			if n.Kind >= api.KNumber {
				states[told.values[number].State]++
			}
			if told.values[number].State == 1 && n.Kind != api.KNumber && n.Kind != api.KTruth {
				reckoned++
			}
			resting += flow.reached[number] - told.goes[number]
		}
		for range 2 {
			one, other := holdSame(t, text, scriptOf(r), told)
			always += one
			anyOf += other
		}
		holdConsts(t, spoilt(r, text))
	}
	if states[0] < 10000 || states[1] < 10000 || states[2] < 10000 || reckoned < 4000 || resting < 2000 || always < 4000 || anyOf < 4000 {
		t.Error("too few values are not there, always the same, any; reckoned; stations that are reached, but do not go; values in runs:", states, reckoned, resting, always, anyOf)
	}
}

// FuzzConsts holds any text against the second way, and a run of it.
func FuzzConsts(f *testing.F) {
	r := rand.New(rand.NewSource(21))
	for range 20 {
		f.Add(made(r))
		f.Add(sureMade(r))
	}
	f.Fuzz(func(t *testing.T, text string) {
		if told := holdConsts(t, text); len(told.goes) > 0 {
			holdSame(t, text, nil, told)
		}
	})
}
