package whole

import (
	"maps"
	"math/rand"
	"slices"
	"strconv"
	"strings"
	"testing"

	"ravel/api"
	"ravel/check"
	"ravel/share"
	"ravel/syntax"
)

// gifts writes programs whose threads make things, give some of them to others, and keep some, by chance. Each variable has a name of its own, so that not all things come to all places.
type gifts struct {
	*rand.Rand
	left  int                 // how much more is to be written
	count int                 // names of variables
	names map[string][]string // by types, those that are there
}

func (g *gifts) one(texts ...string) string { return texts[g.Intn(len(texts))] }

// name answers a new variable.
func (g *gifts) name(typ string) string {
	g.count++
	name := "v" + strconv.Itoa(g.count)
	g.names[typ] = append(slices.Clone(g.names[typ]), name)
	return name
}

// of writes a variable of a type, mostly a late one; or what is made anew.
func (g *gifts) of(typ string) string {
	list := g.names[typ]
	if len(list) == 0 || g.Intn(6) == 0 {
		return map[string]string{"*A": "new(A)", "*B": "new(B)", "c": "make(chan *A, 2)", "d": "make(chan I, 2)", "f": "func() { print(1) }", "g": "take"}[typ]
	}
	return list[max(g.Intn(len(list)), g.Intn(len(list)))]
}

func (g *gifts) iface() string { return g.one(g.of("*A"), g.of("*B")) }

// within writes something in which more variables are there than behind it.
func (g *gifts) within(write func() string) string {
	names := maps.Clone(g.names)
	text := write()
	g.names = names
	return text
}

func (g *gifts) literal(deep int) string {
	return "func() { " + g.within(func() string { return g.stmts(deep) }) + "}"
}

func (g *gifts) define(deep int) string {
	// What stands right is written first: there the new name is not known yet.
	var typ, value string
	switch g.Intn(12) {
	case 0, 1, 2, 3:
		typ, value = "*A", g.one("new(A)", "new(A)", g.of("*A"))
	case 4, 5:
		typ, value = "*B", g.one("new(B)", "new(B)", g.of("*B"))
	case 6:
		typ, value = "c", g.one("make(chan *A, 2)", "make(chan *A)", g.of("c"))
	case 7:
		typ, value = "d", "make(chan I, 3)"
	case 8, 9:
		typ, value = "g", g.one("take", g.of("*A")+".m", g.of("*B")+".m", g.of("*A")+".m")
	default:
		typ, value = "f", g.literal(deep-1)
	}
	return g.name(typ) + " := " + value
}

// touch writes a statement that touches fields, or gives something to who has given away what stands left.
func (g *gifts) touch() string {
	a := g.of("*A")
	switch g.Intn(14) {
	case 0, 1:
		return a + ".n = " + g.of("*A")
	case 2:
		return a + ".i = " + g.iface()
	case 3:
		return a + ".f = " + g.of("f")
	case 4:
		return g.one(a+".c = "+g.of("c"), a+".g = "+g.of("g"))
	case 5:
		return g.of("*B") + ".a = " + a
	case 6, 7:
		return a + ".k = " + a + ".k + 1"
	case 8:
		return "if " + a + ".n != nil { " + a + ".n.k = " + g.of("*B") + ".k }"
	case 9:
		return g.one("if "+a+".f != nil { "+a+".f() }", "if "+a+".g != nil { "+a+".g("+g.of("*A")+") }", "if "+a+".i != nil { "+a+".i.m("+g.of("*A")+") }")
	case 10:
		return g.one("if "+a+".c != nil { select { case x := <-"+a+".c: x.k = 1; default: } }", "b := "+g.of("*B")+".a; if b != nil { b.k = 1 }")
	case 11:
		return g.of("f") + "()"
	case 12:
		return g.one(g.of("g")+"("+g.of("*A")+")", "touch("+g.iface()+")")
	}
	typ := g.one("*A", "*A", "*B", "c", "g", "f")
	if list := g.names[typ]; len(list) > 0 {
		return list[g.Intn(len(list))] + " = " + g.of(typ)
	}
	return "print(2)"
}

// pass writes a statement by which something comes to another thread.
func (g *gifts) pass(deep int) string {
	switch g.Intn(14) {
	case 0, 1:
		return "select { case " + g.of("c") + " <- " + g.of("*A") + ": default: }"
	case 2:
		return "select { case " + g.of("d") + " <- " + g.iface() + ": default: }"
	case 3, 4:
		return g.within(func() string {
			from := g.of("c")
			return "select { case " + g.name("*A") + " := <-" + from + ": " + g.stmts(deep-1) + g.one("", "default: ") + "}"
		})
	case 5:
		return "select { case i := <-" + g.of("d") + ": i.m(" + g.of("*A") + "); default: }"
	case 6:
		return "go " + g.one("take("+g.of("*A")+")", "touch("+g.iface()+")", g.of("g")+"("+g.of("*A")+")")
	case 7:
		return "go " + g.one(g.of("*A"), g.of("*B")) + ".m(" + g.of("*A") + ")"
	case 8:
		return "go " + g.of("f") + "()"
	case 9, 10:
		return g.sure()
	}
	return "go " + g.literal(deep-1) + "()"
}

// sure writes statements by which something surely comes to another thread, if that goes on early enough.
func (g *gifts) sure() string {
	a, b := g.of("*A"), g.of("*A")
	switch g.Intn(4) {
	case 0:
		c := g.name("c")
		return c + " := make(chan *A, 1); " + c + " <- " + b + "; go func() { x := <-" + c + "; x.k = 1; " + g.touch() + " }()"
	case 1:
		c := g.name("c")
		return c + " := make(chan *A); go func() { " + c + " <- new(A); " + g.touch() + " }(); " + g.name("*A") + " := <-" + c
	case 2:
		name := g.name("*A")
		return name + " := " + a + "; " + name + ".n = " + b + "; go func(x *A) { x.n.k = 1 }(" + name + ")"
	}
	return "go func() { h := func() { " + a + ".k = 1; " + g.touch() + " }; h() }()"
}

func (g *gifts) stmt(deep int) string {
	g.left--
	if deep <= 0 || g.left <= 0 {
		return g.one(g.touch(), g.touch(), "print(3)")
	}
	switch g.Intn(8) {
	case 0, 1, 2:
		return g.define(deep)
	case 3:
		return g.pass(deep)
	case 4:
		return "if " + g.one("true", g.of("*A")+".k < 2") + " { " + g.within(func() string { return g.stmts(deep - 1) }) + "}"
	}
	return g.touch()
}

func (g *gifts) stmts(deep int) string {
	text := ""
	for range 2 + g.Intn(4) {
		text += g.stmt(deep) + "; "
	}
	return text
}

// giftsMade answers such a program that may be.
func giftsMade(r *rand.Rand) string {
	for {
		g := &gifts{Rand: r, left: 25 + r.Intn(30), names: map[string][]string{}}
		body := func(names map[string][]string) string {
			return g.within(func() string {
				maps.Copy(g.names, names)
				return " { " + g.stmts(2) + "}\n"
			})
		}
		text := "type A struct { n *A; i I; f func(); g func(*A); c chan *A; k int }\ntype B struct { a *A; k int }\ntype I interface { m(a *A) }\n" +
			"func touch(i I) { if i != nil { i.m(new(A)) } }\nfunc take(x *A)" + body(map[string][]string{"*A": {"x"}}) +
			"func (x *A) m(y *A)" + g.one(body(map[string][]string{"*A": {"y", "x"}}), " { x.k = 1 }\n") +
			"func (x *B) m(y *A)" + g.one(body(map[string][]string{"*A": {"y"}, "*B": {"x"}}), " { x.a = y }\n", " {}\n")
		g.left = 20 + r.Intn(30)
		text += "func main() { " + g.stmts(3) + g.pass(3) + "; "
		for range r.Intn(4) {
			text += g.stmts(3)
		}
		text += strings.Repeat("print(0); ", 6) + "}\n"
		// Now and then names are there twice in a block, or it is too long.
		if _, fault := check.Check(text); fault == (api.Fault{}) {
			return text
		}
	}
}

// This is a second way to tell what is given: all nodes are gone through again and again, with what is given by then, until nothing comes any more.

// gives are the rules by which something is given.
var gives = []string{"called", "value", "variable", "within", "ahead", "field", "channel"}

type givenAgain struct {
	*spots
	without string // a rule that is not taken
	given   map[int]bool
}

func (s *spots) lookGiven(without string) []int {
	g := givenAgain{s, without, map[int]bool{}}
	for before := -1; before < len(g.given); {
		before = len(g.given)
		for number := range s.nodes {
			g.node(number)
		}
	}
	return slices.Sorted(maps.Keys(g.given))
}

// give gives what is somewhere, by a rule.
func (g givenAgain) give(rule string, where spot) {
	if rule != g.without {
		for site := range g.held[where] {
			g.given[site] = true
		}
	}
}

func (g givenAgain) node(number int) {
	n := g.nodes[number]
	switch n.Kind {
	case api.KGo:
		kids := g.nodes[n.Kids[0]].Kids
		g.give("called", spot{node: kids[0]})
		for _, value := range kids[1:] {
			g.give("value", spot{node: value})
		}
	case api.KSend, api.KCaseSend:
		if slices.ContainsFunc(g.at(n.Kids[0]), func(site int) bool { return g.given[site] }) {
			g.give("channel", spot{node: n.Kids[1]})
		}
	}
	if !g.given[number] {
		return
	}
	switch n.Kind {
	case api.KLit:
		g.names(number, number, "variable")
	case api.KDot:
		g.give("ahead", spot{node: n.Kids[0]})
	}
	for where := range g.held {
		if where.inside && where.node == number {
			g.give(map[int]string{api.KNew: "field", api.KMake: "channel"}[n.Kind], where)
		}
	}
}

// names goes through what stands below a node of a literal, and gives what is in variables that do not stand below that.
func (g givenAgain) names(literal, number int, rule string) {
	for _, kid := range g.nodes[number].Kids {
		if use := g.uses[kid]; use >= 0 && g.kind(use) != api.KFunc && !g.isBelow(use, literal) {
			g.give(rule, spot{node: use})
		}
		if g.kind(kid) == api.KLit {
			g.names(literal, kid, "within")
		} else {
			g.names(literal, kid, rule)
		}
	}
}

func (o outside) isBelow(number, other int) bool {
	for up, is := number, true; is; up, is = o.parents[up], up != len(o.nodes)-1 {
		if up == other {
			return true
		}
	}
	return false
}

// shareAgain has what is told of what is given.
type shareAgain struct {
	sites, keeps []int
}

func (s shareAgain) equal(other shareAgain) bool {
	return slices.Equal(s.sites, other.sites) && slices.Equal(s.keeps, other.keeps)
}

func (s *spots) lookShare() shareAgain {
	told := shareAgain{sites: s.lookGiven("")}
	for number, n := range s.nodes {
		if n.Kind == api.KNew && !slices.Contains(told.sites, number) {
			told.keeps = append(told.keeps, number)
		}
	}
	return told
}

// shareOf asks the faces; both answer one fault.
func shareOf(t *testing.T, text string) (shareAgain, api.Fault) {
	t.Helper()
	sites, first := share.Sites(text)
	keeps, second := share.Keeps(text)
	if first != second {
		t.Fatalf("%v, %v of\n%s", first, second, text)
	}
	return shareAgain{sites, keeps}, first
}

// holdShare holds what is told of what a text's program gives away against the second way, and against that of the printed text, which has the same nodes.
func holdShare(t *testing.T, text string) (shareAgain, *spots) {
	t.Helper()
	got, fault := shareOf(t, text)
	if _, want := check.Check(text); fault != want {
		t.Fatalf("%v, not %v of\n%s", fault, want, text)
	}
	if fault.Code != api.OK {
		if !got.equal(shareAgain{}) {
			t.Fatalf("%v and %v of\n%s", fault, got, text)
		}
		return got, nil
	}
	spots := newSpots(text)
	if want := spots.lookShare(); !got.equal(want) {
		t.Fatalf("%v, not\n%v of\n%s", got, want, text)
	}
	printed, _ := syntax.Print(text)
	if other, fault := shareOf(t, printed); fault.Code == api.OK && !got.equal(other) {
		t.Fatalf("%v, not\n%v when it is printed, of\n%s", got, other, text)
	}
	return got, spots
}

// touchesOf answers of each site whose things' fields are touched in a run whether another strand than the maker's does so.
func touchesOf(text string, script []int) map[int]bool {
	out := map[int]bool{}
	for _, a := range actsOf(text, script) {
		if a.object != nil {
			out[a.object.site] = out[a.object.site] || a.object.maker != a.strand
		}
	}
	return out
}

// holdTouches holds that in a run just the strand that made a thing touches its fields, where its site is not given. It answers the sites whose things others touch, and how many of those that are kept are touched.
func holdTouches(t *testing.T, text string, script []int, told shareAgain) (foreign []int, kept int) {
	t.Helper()
	for site, isForeign := range touchesOf(text, script) {
		isKept := slices.Contains(told.keeps, site)
		switch {
		case isForeign && (isKept || !slices.Contains(told.sites, site)):
			t.Fatalf("what %d made is touched by another thread, by %v of\n%s", site, script, text)
		case isForeign:
			foreign = append(foreign, site)
		case isKept:
			kept++
		}
	}
	return foreign, kept
}

// TestShareAgain holds what made programs give away against the second way, and against their runs; each rule has to matter often enough, also for what runs touch.
func TestShareAgain(t *testing.T) {
	r := rand.New(rand.NewSource(36))
	given, keeps, foreign, kept := 0, 0, 0, 0
	turned, needed := map[string]int{}, map[string]int{} // by rules: in how many programs it would be otherwise without; how many sites whose things others touch would not be told
	for round := range 600 {
		text := giftsMade(r)
		if round%4 == 0 {
			text = []string{made(r), livelyMade(r), thingsMade(r), deedsMade(r), racyMade(r)}[r.Intn(5)]
		}
		told, spots := holdShare(t, text)
		given += len(told.sites)
		keeps += len(told.keeps)
		var touched []int
		for range 4 {
			sites, others := holdTouches(t, text, scriptOf(r), told)
			touched = append(touched, sites...)
			kept += others
		}
		foreign += len(touched)
		for _, rule := range gives {
			less := spots.lookGiven(rule)
			if !slices.Equal(less, told.sites) {
				turned[rule]++
			}
			for _, site := range touched {
				if !slices.Contains(less, site) {
					needed[rule]++
				}
			}
		}
		holdShare(t, spoilt(r, text))
	}
	if given < 2000 || keeps < 5000 || foreign < 800 || kept < 5000 {
		t.Error("too few are given, kept; too few that are touched by others, that are kept and touched:", given, keeps, foreign, kept)
	}
	for _, rule := range gives {
		if turned[rule] < 20 || needed[rule] < 10 {
			t.Error("this rule matters too seldom:", rule, turned[rule], needed[rule])
		}
	}
}

// FuzzShare holds any text against the second way, and a run of it.
func FuzzShare(f *testing.F) {
	r := rand.New(rand.NewSource(37))
	for range 20 {
		f.Add(livelyMade(r), []byte{1, 2, 3})
		f.Add(giftsMade(r), []byte{1, 0, 4, 2, 1, 1})
	}
	f.Fuzz(func(t *testing.T, text string, picks []byte) {
		told, spots := holdShare(t, text)
		if spots == nil {
			return
		}
		var script []int
		for _, pick := range picks {
			script = append(script, int(int8(pick)))
		}
		holdTouches(t, text, script, told)
	})
}
