package whole

import (
	"maps"
	"math/rand"
	"reflect"
	"slices"
	"strconv"
	"testing"

	"ravel/api"
	"ravel/check"
	"ravel/effects"
	"ravel/syntax"
)

// doer writes functions that call each other, some of which do something, by chance. All of them are handed a number and a channel.
type doer struct {
	*rand.Rand
}

// doers is how many functions it writes beside methods.
const doers = 8

func (d doer) one(texts ...string) string { return texts[d.Intn(len(texts))] }

// callee writes what is called in a function: mostly a later one, so that not all of them come to each other.
func (d doer) callee(from int) string {
	if d.Intn(12) == 0 {
		from = 0
	}
	if place := from + d.Intn(doers+3-from); place < doers {
		return "f" + strconv.Itoa(place)
	}
	return d.one("new(A).m", "new(B).m", "new(A).o")
}

func (d doer) deed() string {
	return d.one("print(n)", "print(n)", "if n < 3 { panic(n) }", "if n == 1 { panic(n) }", "c <- n", "n = <-c", "<-c", "close(make(chan int))", "close(make(chan int))", "if n == 2 { close(c) }",
		"select { case c <- n: default: }", "select { case c <- n: case <-c: }", "select { case x := <-c: n = x; default: }", "select { case <-c: default: print(n) }")
}

func (d doer) stmt(from, deep int) string {
	call, inner := d.callee(from)+"(n-1, c)", ""
	if deep > 0 {
		inner = d.one("", d.stmt(from, deep-1), d.stmt(from, deep-1), d.deed())
	}
	return d.one(call, call, call, call, d.deed(), "go "+call, "n = n - 1", "by("+d.one("new(A)", "new(B)", "nil")+", n-1, c)",
		"go func(n int) { "+inner+" }(n-1)", "func(n int) { "+inner+" }(n-1)", "if true { h := func(n int) { "+inner+" }; "+d.one("h(n-1)", "print(h == nil)", "go h(n)", "h = nil")+" }",
		"if true { h := "+d.callee(from)+"; h = "+d.callee(from)+"; h(n-1, c) }", "pick("+d.callee(from)+", n)(n-1, c)", "go pick("+d.callee(from)+", n)(n-1, c)",
		"if n > 1 { a := new(A); "+d.one("", "a.f = "+d.callee(from)+"; ")+"if a.f != nil { a.f(n-1, c) } }")
}

func (d doer) body(from int) string {
	if d.Intn(4) == 0 {
		return d.one("n = n + 1", "", "b := new(B); if b == nil { n = 1 / n }")
	}
	text := "if n > 0 { "
	for range 1 + d.Intn(3) {
		text += d.stmt(from, 2) + "; "
	}
	return text + "}"
}

// deedsMade answers a program of such functions that may be.
func deedsMade(r *rand.Rand) string {
	for {
		d := doer{r}
		text := "type A struct { f func(int, chan int) }\ntype B struct {}\ntype I interface { m(n int, c chan int) }\n" +
			"func by(i I, n int, c chan int) { if i != nil { i.m(n, c) } }\n" +
			"func pick(f func(int, chan int), n int) func(int, chan int) { " + d.one("", "", "print(n); ") + "return f }\n"
		for number := range doers {
			text += "func f" + strconv.Itoa(number) + "(n int, c chan int) { " + d.body(number+1) + " }\n"
		}
		for _, head := range []string{"(x *A) m", "(x *B) m", "(x *A) o"} {
			text += "func " + head + "(n int, c chan int) { " + d.one(d.body(doers), d.deed(), "", "") + " }\n"
		}
		text += "func main() { n := 5; c := make(chan int, 8); c <- 0; c <- 1; " + d.stmt(0, 2) + "; " + d.stmt(0, 2) + "; " + d.stmt(1, 1) + "; f0(n, c) }\n"
		// Now and then it is too long.
		if _, fault := check.Check(text); fault == (api.Fault{}) {
			return text
		}
	}
}

// This is a second way to tell what functions can do: from each one all is gone through that stands in it, and, where calls stand, in what they can call.

// effectsAgain has what is told of what functions do.
type effectsAgain struct {
	of    [][]int
	quiet []int
}

// toldAs answers the kind by which a node is told that does something, else 0.
func toldAs(kind int) int {
	if other := map[int]int{api.KCaseSend: api.KSend, api.KCaseRecv: api.KRecv}[kind]; other != 0 {
		return other
	}
	if slices.Contains([]int{api.KSend, api.KRecv, api.KClose, api.KPrint, api.KGo, api.KPanic}, kind) {
		return kind
	}
	return 0
}

// gather lays down what is done at a node, below it, and in what is called there.
func (s *spots) gather(number int, found, seen map[int]bool) {
	n := s.nodes[number]
	if kind := toldAs(n.Kind); kind != 0 {
		found[kind] = true
	}
	for _, kid := range n.Kids {
		if s.kind(kid) != api.KLit {
			s.gather(kid, found, seen)
		}
	}
	if n.Kind != api.KCall || s.kind(s.parents[number]) == api.KGo {
		return
	}
	for pair := range s.pairs {
		if pair[0] == number && !seen[pair[1]] {
			seen[pair[1]] = true
			s.gather(pair[1], found, seen)
		}
	}
}

func (s *spots) lookEffects() effectsAgain {
	e := effectsAgain{of: make([][]int, len(s.nodes))}
	for number, n := range s.nodes {
		if isBody(n.Kind) {
			found := map[int]bool{}
			s.gather(number, found, map[int]bool{number: true})
			e.of[number] = slices.Sorted(maps.Keys(found))
		}
	}
	for number, n := range s.nodes {
		if n.Kind != api.KCall || s.kind(s.parents[number]) == api.KGo {
			continue
		}
		calls, loud := 0, 0
		for pair := range s.pairs {
			if pair[0] == number {
				calls++
				loud += len(e.of[pair[1]])
			}
		}
		if calls > 0 && loud == 0 {
			e.quiet = append(e.quiet, number)
		}
	}
	return e
}

func (e effectsAgain) equal(other effectsAgain) bool {
	return equalLists(e.of, other.of) && slices.Equal(e.quiet, other.quiet)
}

// effectsOf asks the faces; both answer one fault.
func effectsOf(t *testing.T, text string) (effectsAgain, api.Fault) {
	t.Helper()
	of, first := effects.Of(text)
	quiet, second := effects.Quiet(text)
	if first != second {
		t.Fatalf("%v, %v of\n%s", first, second, text)
	}
	return effectsAgain{of, quiet}, first
}

// holdEffects holds what is told of what a text's functions do against the second way, and against that of the printed text, which has the same nodes.
func holdEffects(t *testing.T, text string) effectsAgain {
	t.Helper()
	got, fault := effectsOf(t, text)
	if _, want := check.Check(text); fault != want {
		t.Fatalf("%v, not %v of\n%s", fault, want, text)
	}
	if fault.Code != api.OK {
		if !got.equal(effectsAgain{}) {
			t.Fatalf("%v and %v of\n%s", fault, got, text)
		}
		return got
	}
	if want := newSpots(text).lookEffects(); !got.equal(want) {
		t.Fatalf("%v, not\n%v of\n%s", got, want, text)
	}
	printed, _ := syntax.Print(text)
	if other, fault := effectsOf(t, printed); fault.Code == api.OK && !got.equal(other) {
		t.Fatalf("%v, not\n%v when it is printed, of\n%s", got, other, text)
	}
	return got
}

// holdDone holds that in a run functions do just what they can do, and that within quiet calls nothing is done. It answers how often which kinds were done within calls, and how many quiet calls were begun.
func holdDone(t *testing.T, text string, script []int, told effectsAgain) (map[int]int, int) {
	t.Helper()
	m, _ := readAgain(text)
	seen, quiet := map[int]int{}, 0
	m.does = func(within []int, node int) {
		kind := toldAs(m.nodes[node].Kind)
		for _, function := range within {
			if !slices.Contains(told.of[function], kind) {
				t.Fatalf("%d, of kind %d, is done within %d of\n%s", node, kind, function, text)
			}
		}
		seen[kind] += len(within) - 1
	}
	m.calls = func(_ []int, node, called int) {
		if slices.Contains(told.quiet, node) {
			quiet++
			if len(told.of[called]) > 0 {
				t.Fatalf("%d calls %d, which can do %v, of\n%s", node, called, told.of[called], text)
			}
		}
	}
	trace, _ := m.run(script)
	m.does, m.calls = nil, nil
	if plain, _ := m.run(script); !reflect.DeepEqual(trace, plain) {
		t.Fatalf("%v, not %v of\n%s", trace, plain, text)
	}
	return seen, quiet
}

// TestEffectsAgain holds what functions do in made programs against the second way, and against their runs.
func TestEffectsAgain(t *testing.T) {
	r := rand.New(rand.NewSource(22))
	idle, some, quiet, begun := 0, 0, 0, 0
	told, done := map[int]int{}, map[int]int{} // by kinds
	for round := range 800 {
		text := deedsMade(r)
		if round%4 == 0 {
			text = []string{made(r), livelyMade(r), thingsMade(r), ringsMade(r)}[r.Intn(4)]
		}
		got := holdEffects(t, text)
		if len(got.of) == 0 {
			t.Fatalf("this may not be:\n%s", text)
		}
		quiet += len(got.quiet)
		for number, n := range newSpots(text).nodes {
			if isBody(n.Kind) {
				idle += 1 - min(len(got.of[number]), 1)
				some += min(len(got.of[number]), 1)
			}
			for _, kind := range got.of[number] {
				told[kind]++
			}
		}
		for range 2 {
			seen, calls := holdDone(t, text, scriptOf(r), got)
			begun += calls
			for kind, times := range seen {
				done[kind] += times
			}
		}
		holdEffects(t, spoilt(r, text))
	}
	if idle < 3000 || some < 5000 || quiet < 2000 || begun < 2000 {
		t.Error("too few functions do nothing, do something; too few calls are quiet, or are begun:", idle, some, quiet, begun)
	}
	for _, kind := range []int{api.KSend, api.KRecv, api.KClose, api.KPrint, api.KGo, api.KPanic} {
		if told[kind] < 500 || done[kind] < 60 {
			t.Error("too few functions can do this, or do it:", kind, told[kind], done[kind])
		}
	}
}

// FuzzEffects holds any text against the second way, and a run of it.
func FuzzEffects(f *testing.F) {
	r := rand.New(rand.NewSource(23))
	for range 20 {
		f.Add(livelyMade(r))
		f.Add(deedsMade(r))
	}
	f.Fuzz(func(t *testing.T, text string) {
		if told := holdEffects(t, text); len(told.of) > 0 {
			holdDone(t, text, nil, told)
		}
	})
}
