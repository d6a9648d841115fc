package whole

import (
	"maps"
	"math/rand"
	"reflect"
	"slices"
	"testing"

	"ravel/api"
	"ravel/calls"
	"ravel/check"
	"ravel/syntax"
)

// ringsMade answers a program whose functions, methods and literals call each other, by chance.
func ringsMade(r *rand.Rand) string {
	one := func(texts ...string) string { return texts[r.Intn(len(texts))] }
	functions := []string{"a", "b", "c", "d", "e", "f", "new(A).m", "new(B).m", "new(A).o"}
	text := "type A struct {}\ntype B struct {}\ntype I interface { m(n int) }\nfunc by(i I, n int) { i.m(n) }\nfunc with(h func(int), n int) { h(n) }\n"
	var stmt func(deep int) string
	stmt = func(deep int) string {
		called := one(functions...)
		if deep == 0 {
			return called + "(n-1)"
		}
		return one(called+"(n-1)", called+"(n-2)", "go "+called+"(n-2)", "if true { h := "+called+"; h = "+one(functions...)+"; h(n-1) }",
			"with("+called+", n-1)", "by("+one("new(A)", "new(B)", "nil")+", n-1)", "func(n int) { "+stmt(deep-1)+" }(n-1)",
			"if true { h := "+called+"; h = func(n int) { if n > 0 { "+stmt(deep-1)+"; "+one("h(n-1)", stmt(deep-1))+" } }; "+one("h(n-1)", "print(n)")+" }")
	}
	for _, head := range []string{"a", "b", "c", "d", "e", "f", "(x *A) m", "(x *B) m", "(x *A) o"} {
		text += "func " + head + "(n int) {" + one("", " if n > 0 { "+stmt(2)+" }", " if n > 0 { "+stmt(1)+" }", " if n > 1 { "+stmt(2)+"; "+stmt(1)+" }") + " }\n"
	}
	return text + "func main() { n := 6; " + stmt(2) + "; " + stmt(1) + "; " + one(stmt(2), "main()", "h := main") + " }\n"
}

// This is a second way to tell who calls whom: ways are put together, over one function after the other.

// callsAgain has what is told of calls.
type callsAgain struct {
	pairs [][2]int
	met   []int
	rings [][]int
}

// ways answers of all functions which one comes to which one by calls (Warshall).
func (s *spots) ways() map[[2]int]bool {
	out, functions := map[[2]int]bool{}, []int{}
	for pair := range s.pairs {
		out[[2]int{s.function(pair[0]), pair[1]}] = true
	}
	for number, n := range s.nodes {
		if isBody(n.Kind) {
			functions = append(functions, number)
		}
	}
	for _, between := range functions {
		for _, from := range functions {
			if !out[[2]int{from, between}] {
				continue
			}
			for _, to := range functions {
				if out[[2]int{between, to}] {
					out[[2]int{from, to}] = true
				}
			}
		}
	}
	return out
}

func (s *spots) lookCalls() callsAgain {
	c := callsAgain{pairs: slices.SortedFunc(maps.Keys(s.pairs), func(a, b [2]int) int { return slices.Compare(a[:], b[:]) })}
	ways := s.ways()
	var told []int
	for number, n := range s.nodes {
		c.met = append(c.met, 0)
		for main, decl := range s.nodes {
			if decl.Kind == api.KFunc && decl.Text == "main" && (main == number || ways[[2]int{main, number}]) {
				c.met[number] = 1
			}
		}
		if !isBody(n.Kind) || !ways[[2]int{number, number}] || slices.Contains(told, number) {
			continue
		}
		ring := []int{number}
		for other := number + 1; other < len(s.nodes); other++ {
			if ways[[2]int{number, other}] && ways[[2]int{other, number}] {
				ring = append(ring, other)
			}
		}
		told = append(told, ring...)
		c.rings = append(c.rings, ring)
	}
	return c
}

func (c callsAgain) equal(other callsAgain) bool {
	return slices.Equal(c.pairs, other.pairs) && slices.Equal(c.met, other.met) && equalLists(c.rings, other.rings)
}

// areInOneRing tells whether all of them are.
func (c callsAgain) areInOneRing(functions []int) bool {
	return slices.ContainsFunc(c.rings, func(ring []int) bool {
		return !slices.ContainsFunc(functions, func(f int) bool { return !slices.Contains(ring, f) })
	})
}

// callsOf asks the faces; all answer one fault.
func callsOf(t *testing.T, text string) (callsAgain, api.Fault) {
	t.Helper()
	pairs, first := calls.Calls(text)
	met, second := calls.Met(text)
	rings, third := calls.Rings(text)
	if first != second || first != third {
		t.Fatalf("%v, %v, %v of\n%s", first, second, third, text)
	}
	return callsAgain{pairs, met, rings}, first
}

// holdCalls holds what is told of a text's calls against the second way, and against that of the printed text, which has the same nodes.
func holdCalls(t *testing.T, text string) callsAgain {
	t.Helper()
	got, fault := callsOf(t, text)
	if _, want := check.Check(text); fault != want {
		t.Fatalf("%v, not %v of\n%s", fault, want, text)
	}
	if fault.Code != api.OK {
		if !got.equal(callsAgain{}) {
			t.Fatalf("%v and %v of\n%s", fault, got, text)
		}
		return got
	}
	if want := newSpots(text).lookCalls(); !got.equal(want) {
		t.Fatalf("%v, not\n%v of\n%s", got, want, text)
	}
	printed, _ := syntax.Print(text)
	if other, fault := callsOf(t, printed); fault.Code == api.OK && !got.equal(other) {
		t.Fatalf("%v, not\n%v when it is printed, of\n%s", got, other, text)
	}
	return got
}

// holdCalled holds that in a run just those are called that can be, and that who comes to itself again is in a ring with all between. It answers which pairs were there, and how often one came to itself.
func holdCalled(t *testing.T, text string, script []int, told callsAgain) (map[[2]int]bool, int) {
	t.Helper()
	m, _ := readAgain(text)
	seen, rounds := map[[2]int]bool{}, 0
	m.calls = func(within []int, node, called int) {
		pair := [2]int{node, called}
		seen[pair] = true
		if !slices.Contains(told.pairs, pair) || told.met[called] != 1 {
			t.Fatalf("%v is called of\n%s", pair, text)
		}
		if first := slices.Index(within, called); first >= 0 {
			rounds++
			if !told.areInOneRing(within[first:]) {
				t.Fatalf("%v is called within %v of\n%s", pair, within, text)
			}
		}
	}
	trace, _ := m.run(script)
	m.calls = nil
	if plain, _ := m.run(script); !reflect.DeepEqual(trace, plain) {
		t.Fatalf("%v, not %v of\n%s", trace, plain, text)
	}
	return seen, rounds
}

// TestCallsAgain holds who calls whom in made programs against the second way, and against their runs.
func TestCallsAgain(t *testing.T) {
	r := rand.New(rand.NewSource(16))
	pairs, met, unmet, rings, great, seen, rounds := 0, 0, 0, 0, 0, 0, 0
	for round := range 500 {
		text := ringsMade(r)
		if round%2 == 0 {
			text = []string{made(r), livelyMade(r), thingsMade(r), thingsMade(r)}[r.Intn(4)]
		}
		told := holdCalls(t, text)
		if len(told.met) == 0 {
			t.Fatalf("this may not be:\n%s", text)
		}
		pairs += len(told.pairs)
		for number, n := range newSpots(text).nodes {
			if isBody(n.Kind) {
				met += told.met[number]
				unmet += 1 - told.met[number]
			}
		}
		for _, ring := range told.rings {
			rings++
			great += len(ring) - 1
		}
		for range 2 {
			these, many := holdCalled(t, text, scriptOf(r), told)
			seen += len(these)
			rounds += many
		}
		holdCalls(t, spoilt(r, text))
	}
	if pairs < 6000 || met < 3000 || unmet < 3000 || seen < 5000 {
		t.Error("too few calls are told, functions that are met, that are not, or too few are seen:", pairs, met, unmet, seen)
	}
	if rings < 600 || great < 600 || rounds < 5000 {
		t.Error("too few rings are told, further ones in them, or too few come to themselves:", rings, great, rounds)
	}
}

// FuzzCalls holds any text against the second way, and a run of it.
func FuzzCalls(f *testing.F) {
	r := rand.New(rand.NewSource(17))
	for range 20 {
		f.Add(thingsMade(r))
		f.Add(ringsMade(r))
	}
	f.Fuzz(func(t *testing.T, text string) {
		if told := holdCalls(t, text); len(told.met) > 0 {
			holdCalled(t, text, nil, told)
		}
	})
}
