package whole

import (
	"maps"
	"math/rand"
	"reflect"
	"slices"
	"strconv"
	"testing"

	"ravel/api"
	"ravel/check"
	"ravel/kinds"
	"ravel/syntax"
)

// boxesMade answers a program in which things of several structs are put into interfaces, and asked for again, by chance.
func boxesMade(r *rand.Rand) string {
	one := func(texts ...string) string { return texts[r.Intn(len(texts))] }
	text := "type A struct { e E; i I }\ntype B struct { e E; i I }\ntype C struct { e E }\ntype E interface {}\ntype I interface { m() E }\n" +
		"func (s *A) m() E { return " + one("s", "s.e", "nil") + " }\nfunc (s *B) m() E { return " + one("s", "s.i", "new(C)") + " }\n"
	// Few things come to each one of many functions, so that assertions differ.
	const many = 4
	call := func(from int, x, y string) string {
		return "f" + strconv.Itoa(from+r.Intn(many+1-from)) + "(" + x + ", " + y + ")"
	}
	put := func() string { return one("new(A)", "new(A)", "new(B)", "new(C)", "x", "x", "y", "nil") }
	lay := func() string { return one("new(A)", "new(B)", "new(B)", "y", "y", "nil") }
	ask := func() string {
		return one("x.(*A)", "x.(*A)", "x.(*A)", "x.(*B)", "x.(*C)", "y.(*A)", "y.(*B)", "y.(*B)", "y.m().(*"+one("A", "B", "C")+")")
	}
	stmt := func(from int) string {
		asked := ask()
		return one("x = "+put(), "y = "+lay(), asked+".e = "+put(), "x = "+asked, "if "+asked+" != nil { x = "+asked+".e }", "y = "+one("x.(*A)", "x.(*B)", "y.(*B)"),
			"if y != nil { x = y.m() }", "if x != nil { "+asked+".e = x }", call(from, put(), lay()), call(from, "x", "y"), "x = "+call(from, put(), lay()),
			"select { case c <- x: x = (<-c).(*"+one("A", "B", "C")+"); default: }", "go func(x E) { x = "+asked+" }("+put()+")", "func() { x = "+asked+" }()")
	}
	for number := range many {
		text += "func f" + strconv.Itoa(number) + "(x E, y I) E { c := make(chan E, 1); "
		for range 1 + r.Intn(3) {
			text += stmt(number+1) + "; "
		}
		text += "return " + one("x", "y", "<-c", put(), call(number+1, "x", "y")) + " }\n"
	}
	text += "func f" + strconv.Itoa(many) + "(x E, y I) E { return " + one("x", "y", ask()) + " }\nfunc main() { "
	for range 4 + r.Intn(4) {
		text += call(0, one("new(A)", "new(A)", "new(B)", "new(C)", "nil"), one("new(A)", "new(B)", "new(B)", "nil")) + "; "
	}
	return text + "}\n"
}

// This is a second way to tell what interfaces have: all structs are gone through, and looked for among the things that can be there.

// kindsAgain has what is told of interfaces and assertions.
type kindsAgain struct {
	types   [][]string
	asserts []int
}

// hasOf tells whether a thing that a struct made can be at a node.
func (s *spots) hasOf(node int, owner string) bool {
	return slices.ContainsFunc(s.at(node), func(site int) bool { return s.kind(site) == api.KNew && s.nodes[site].Text == owner })
}

// owners answers the structs whose things can be at a node.
func (s *spots) owners(node int) []string {
	found := map[string]bool{}
	for _, n := range s.nodes {
		if n.Kind == api.KStruct && s.hasOf(node, n.Text) {
			found[n.Text] = true
		}
	}
	return slices.Sorted(maps.Keys(found))
}

// isIface tells whether an expression has an interface's type.
func (s *spots) isIface(node int) bool {
	kind := s.kind(node)
	return kind >= api.KNumber && kind <= api.KBinary && slices.ContainsFunc(s.nodes, func(n api.Node) bool { return n.Kind == api.KIface && n.Text == s.types[node] })
}

func (s *spots) lookKinds() kindsAgain {
	k := kindsAgain{make([][]string, len(s.nodes)), make([]int, len(s.nodes))}
	for number, n := range s.nodes {
		if s.isIface(number) {
			k.types[number] = s.owners(number)
		}
		k.asserts[number] = -1
		if n.Kind == api.KAssert {
			owners := s.owners(n.Kids[0])
			k.asserts[number] = 2 - min(len(owners)-1, 1)
			if !slices.Contains(owners, s.nodes[n.Kids[1]].Text) {
				k.asserts[number] = 0
			}
		}
	}
	return k
}

func (k kindsAgain) equal(other kindsAgain) bool {
	return slices.EqualFunc(k.types, other.types, slices.Equal[[]string]) && slices.Equal(k.asserts, other.asserts)
}

// kindsOf asks the faces; both answer one fault.
func kindsOf(t *testing.T, text string) (kindsAgain, api.Fault) {
	t.Helper()
	types, first := kinds.Types(text)
	asserts, second := kinds.Asserts(text)
	if first != second {
		t.Fatalf("%v, %v of\n%s", first, second, text)
	}
	return kindsAgain{types, asserts}, first
}

// holdKinds holds what is told of a text's interfaces against the second way, and against that of the printed text, which has the same nodes.
func holdKinds(t *testing.T, text string) kindsAgain {
	t.Helper()
	got, fault := kindsOf(t, text)
	if _, want := check.Check(text); fault != want {
		t.Fatalf("%v, not %v of\n%s", fault, want, text)
	}
	if fault.Code != api.OK {
		if !got.equal(kindsAgain{}) {
			t.Fatalf("%v and %v of\n%s", fault, got, text)
		}
		return got
	}
	if want := newSpots(text).lookKinds(); !got.equal(want) {
		t.Fatalf("%v, not\n%v of\n%s", got, want, text)
	}
	printed, _ := syntax.Print(text)
	if other, fault := kindsOf(t, printed); fault.Code == api.OK && !got.equal(other) {
		t.Fatalf("%v, not\n%v when it is printed, of\n%s", got, other, text)
	}
	return got
}

// asking is how an assertion goes in a run: what is told of it, whether it goes well, whether it is of nil.
type asking struct {
	told        int
	well, isNil bool
}

// holdBoxes holds that in a run interfaces have just what is told, and that assertions go as is told. It answers how often interfaces had something, and how often assertions went how.
func holdBoxes(t *testing.T, text string, script []int, told kindsAgain) (int, map[asking]int) {
	t.Helper()
	m, _ := readAgain(text)
	s := outside{nodes: m.nodes}
	boxes, seen := 0, map[asking]int{}
	last := map[int]any{} // of each node what was there last
	m.sees = func(where spot, held any) {
		if where.inside {
			return
		}
		last[where.node] = held
		kind := s.kind(where.node)
		if kind == api.KAssert {
			seen[asking{told.asserts[where.node], true, false}]++
		}
		box, is := held.(*object)
		if kind < api.KNumber || !is || m.types[where.node] == "*"+box.owner {
			return
		}
		boxes++
		if !slices.Contains(told.types[where.node], box.owner) {
			t.Fatalf("a thing of %s is at %d of\n%s", box.owner, where.node, text)
		}
	}
	trace, _ := m.run(script)
	m.sees = nil
	if plain, _ := m.run(script); !reflect.DeepEqual(trace, plain) {
		t.Fatalf("%v, not %v of\n%s", trace, plain, text)
	}
	if trace.Status == api.Fell && s.kind(trace.At) == api.KAssert {
		seen[asking{told.asserts[trace.At], false, last[s.nodes[trace.At].Kids[0]] == nil}]++
	}
	if seen[asking{0, true, false}]+seen[asking{2, false, false}] > 0 {
		t.Fatalf("assertions go otherwise than is told, %v, of\n%s", seen, text)
	}
	return boxes, seen
}

// TestKindsAgain holds what interfaces have in made programs against the second way, and against their runs.
func TestKindsAgain(t *testing.T) {
	r := rand.New(rand.NewSource(18))
	lists, several, boxes := 0, 0, 0
	ways, seen := map[int]int{}, map[asking]int{}
	for round := range 800 {
		text := boxesMade(r)
		if round%4 == 0 {
			text = []string{made(r), livelyMade(r), thingsMade(r), thingsMade(r)}[r.Intn(4)]
		}
		told := holdKinds(t, text)
		if len(told.asserts) == 0 {
			t.Fatalf("this may not be:\n%s", text)
		}
		for number, list := range told.types {
			lists += min(len(list), 1)
			several += max(len(list)-1, 0)
			ways[told.asserts[number]]++
		}
		for range 2 {
			many, askings := holdBoxes(t, text, scriptOf(r), told)
			boxes += many
			for way, times := range askings {
				seen[way] += times
			}
		}
		holdKinds(t, spoilt(r, text))
	}
	if lists < 10000 || several < 5000 || boxes < 7000 {
		t.Error("too few interfaces have something, things of several structs, or too few are seen:", lists, several, boxes)
	}
	for told := range 3 {
		if ways[told] < 500 {
			t.Error("too few assertions go so:", told, ways[told])
		}
	}
	for _, way := range []asking{{0, false, false}, {0, false, true}, {1, false, false}, {1, false, true}, {1, true, false}, {2, false, true}, {2, true, false}} {
		if seen[way] < 20 {
			t.Error("too few assertions are seen so:", way, seen[way])
		}
	}
}

// FuzzKinds holds any text against the second way, and a run of it.
func FuzzKinds(f *testing.F) {
	r := rand.New(rand.NewSource(19))
	for range 20 {
		f.Add(thingsMade(r))
		f.Add(boxesMade(r))
	}
	f.Fuzz(func(t *testing.T, text string) {
		if told := holdKinds(t, text); len(told.asserts) > 0 {
			holdBoxes(t, text, nil, told)
		}
	})
}
