package whole

import (
	"math/big"
	"math/rand"
	"reflect"
	"slices"
	"strconv"
	"testing"

	"ravel/api"
	"ravel/check"
	"ravel/races"
	"ravel/syntax"
)

// racer writes programs whose threads touch the same things, now and then in order, by chance.
type racer struct {
	*rand.Rand
	left  int // how much more is to be written
	count int // names of loops
}

func (r *racer) one(texts ...string) string { return texts[r.Intn(len(texts))] }

// pipe writes a channel: c has no room, d and e have some; l has room for one, and begins full.
func (r *racer) pipe() string { return r.one("c", "d", "e", "c", "d", "e", "a.c") }

func (r *racer) thing() string { return r.one("a", "a", "b", "b", "a.a") }

func (r *racer) num() string {
	return r.one("1", "2", "x", "y", "x + y", r.thing()+".n", r.thing()+".k", "get(a)", "a.up()")
}

// touch writes a statement that touches something.
func (r *racer) touch() string {
	switch r.Intn(8) {
	case 0, 1:
		return r.one("x", "x", "y") + " = " + r.num()
	case 2, 3:
		return r.thing() + r.one(".n", ".n", ".k") + " = " + r.num()
	case 4:
		return r.one("a = b", "b = a", "b = new(A)", "a.a = b", "b.a = a", "up(a, "+r.num()+")", "a.up()", "b.up()", "f(1)", "f(x)")
	case 5:
		return r.one("c = d", "d = make(chan int, 2)", "a.c = c", "a.c = e", "e = a.c", "f = func(n int) { y = n }", "f = func(n int) { a.k = n + x }")
	}
	return "if " + r.num() + " == " + r.num() + " { " + r.one("x = 1", "y = x", "b.n = 3", "print(y)") + " }"
}

// order writes a statement that others can be ahead of, or behind.
func (r *racer) order() string {
	switch r.Intn(12) {
	case 0, 1:
		return r.pipe() + " <- " + r.num()
	case 2, 3:
		return r.one("x = ", "", "", "y = ", "b.n = ") + "<-" + r.pipe()
	case 4:
		return "<-l; " + r.touch() + "; " + r.touch() + "; l <- 0"
	case 5:
		return "u <- 0; " + r.touch() + "; <-u"
	case 6:
		return "select { case " + r.pipe() + " <- " + r.num() + ": " + r.touch() + "; default: }"
	case 7:
		return "select { case x := <-" + r.pipe() + ": " + r.touch() + "; x = 1; case " + r.pipe() + " <- 1: " + r.touch() + " }"
	case 8:
		return "select { case " + r.one("", "y := ") + "<-" + r.pipe() + ": " + r.touch() + r.one("; default: "+r.touch(), "") + " }"
	case 9:
		return r.one("close(h)", "if q { q = false; close(h) }", "if q { q = false; close(d) }", "<-h", "<-h", "<-h", "<-h; "+r.touch())
	}
	return r.one("print(1)", "print("+r.num()+")", "select { case <-h: "+r.touch()+"; default: }")
}

func (r *racer) stmt(deep int) string {
	r.left--
	if deep <= 0 || r.left <= 0 {
		return r.one(r.touch(), r.order())
	}
	switch r.Intn(9) {
	case 0, 1:
		return "go func(" + r.one(") { "+r.stmts(deep-1)+"}()", "x int) { "+r.stmts(deep-1)+"}("+r.num()+")", "b *A) { "+r.stmts(deep-1)+"}("+r.thing()+")")
	case 2:
		r.count++
		name := "k" + strconv.Itoa(r.count)
		return name + " := 0; for " + name + " < " + r.one("2", "3") + " { " + name + " = " + name + " + 1; " + r.stmts(deep-1) + "}"
	case 3:
		return "if true { " + r.one("x := y", "b := new(A)", "c := make(chan int, 1)", "y := 0") + "; " + r.stmts(deep-1) + "}"
	case 4:
		return "go " + r.one("f(x)", "up(b, 3)", "a.up()", "f(2)")
	case 5:
		return "f = func(n int) { " + r.stmts(0) + "}"
	case 6, 7:
		return r.order()
	}
	return r.touch()
}

func (r *racer) stmts(deep int) string {
	text := ""
	for range 2 + r.Intn(4) {
		text += r.stmt(deep) + "; "
	}
	return text
}

// racyMade answers such a program that may be.
func racyMade(random *rand.Rand) string {
	for {
		r := &racer{Rand: random, left: 20 + random.Intn(50)}
		text := "type A struct { n int; k int; a *A; c chan int }\n" +
			"func (a *A) up() int { a.n = a.n + 1; return a.k }\n" +
			"func up(a *A, n int) { a.n = n; if a.a != nil { a.a.k = a.n } }\n" +
			"func get(a *A) int { return a.k }\n" +
			"func main() { x := 0; y := 0; q := true; a := new(A); b := new(A); c := make(chan int); d := make(chan int, " + r.one("1", "2") + "); e := make(chan int, " + r.one("1", "3") + "); " +
			"h := make(chan int" + r.one("", ", 1") + "); l := make(chan int, 1); u := make(chan int, 1); f := func(n int) { x = x + n; a.n = n }; l <- 0; " + r.one("", "h = d; ") + r.one("a.c = c; ", "a.c = d; ") + "a.a = b; "
		for range 1 + r.Intn(4) {
			text += "go func() { " + r.stmts(2) + "}(); "
		}
		text += r.stmts(3) + r.stmts(1) + "print(x) }\n"
		// Now and then names are there twice in a block, or it is too long.
		if _, fault := check.Check(text); fault == (api.Fault{}) {
			return text
		}
	}
}

// This is a second way to tell what races: all acts of a run are joined, each to the next one of its strand, and to those behind others, and all that one comes to from each of them is gathered, from the last one on.

// rules are what puts acts of several strands in order.
var rules = []string{"go", "value", "met", "room", "shut"}

type joins struct {
	acts    []act
	without string        // a rule that is not taken
	next    []int         // of each act the next one of its strand, or -1
	edges   map[int][]int // of each act those ahead of which it is
}

// link lets an act be ahead of what comes behind another one.
func (j *joins) link(rule string, from, other int) {
	if behind := j.next[other]; behind >= 0 && rule != j.without {
		j.edges[from] = append(j.edges[from], behind)
	}
}

// places answers the places of the acts that are such, on a pipe.
func (j *joins) places(what string, on *pipe) []int {
	var out []int
	for place, a := range j.acts {
		if a.what == what && a.pipe == on {
			out = append(out, place)
		}
	}
	return out
}

// linkPipe joins the acts on a pipe.
func (j *joins) linkPipe(on *pipe) {
	sends, takes := j.places("send", on), j.places("take", on)
	for n, take := range takes {
		j.link("value", sends[n], take)
		if n+on.room < len(sends) {
			rule := "room"
			if on.room == 0 {
				rule = "met"
			}
			j.link(rule, take, sends[n+on.room])
		}
	}
	for _, shut := range j.places("shut", on) {
		for _, empty := range j.places("empty", on) {
			j.link("shut", shut, empty)
		}
	}
}

// ahead answers of each act all those ahead of which it is, as bits.
func (j *joins) ahead() []*big.Int {
	seen := map[*pipe]bool{}
	for place, a := range j.acts {
		if behind := j.next[place]; behind >= 0 {
			j.edges[place] = append(j.edges[place], behind)
		}
		if a.what == "go" {
			first := slices.IndexFunc(j.acts, func(b act) bool { return b.strand == a.other })
			if first >= 0 && j.without != "go" {
				j.edges[place] = append(j.edges[place], first)
			}
		}
		if a.pipe != nil && !seen[a.pipe] {
			seen[a.pipe] = true
			j.linkPipe(a.pipe)
		}
	}
	out := make([]*big.Int, len(j.acts))
	for place := range slices.Backward(j.acts) {
		out[place] = new(big.Int)
		for _, other := range j.edges[place] {
			out[place].SetBit(out[place], other, 1).Or(out[place], out[other])
		}
	}
	return out
}

// racesAgain answers the pairs, and how many pairs of acts are in order that would race else.
func racesAgain(acts []act, without string) (pairs [][2]int, ordered int) {
	j := joins{acts: acts, without: without, next: make([]int, len(acts)), edges: map[int][]int{}}
	later := map[int]int{}
	for place, a := range slices.Backward(acts) {
		j.next[place] = -1
		if behind, is := later[a.strand]; is {
			j.next[place] = behind
		}
		later[a.strand] = place
	}
	ahead := j.ahead()
	for one, a := range acts {
		for two, b := range acts {
			if a.cell == nil || a.cell != b.cell || a.strand >= b.strand || a.what != "write" && b.what != "write" {
				continue
			}
			if ahead[one].Bit(two) == 1 || ahead[two].Bit(one) == 1 {
				ordered++
				continue
			}
			pair := [2]int{a.node, b.node}
			slices.Sort(pair[:])
			if !slices.Contains(pairs, pair) {
				pairs = append(pairs, pair)
			}
		}
	}
	slices.SortFunc(pairs, func(p, q [2]int) int { return slices.Compare(p[:], q[:]) })
	return pairs, ordered
}

// actsOf answers what is done in a run of a program that may be.
func actsOf(text string, script []int) []act {
	m, _ := readAgain(text)
	var acts []act
	m.acts = func(a act) { acts = append(acts, a) }
	m.run(script)
	return acts
}

// holdRaces holds what races in a run against the second way, and against that of the printed text, which has the same nodes.
func holdRaces(t *testing.T, text string, script []int) (pairs [][2]int, acts []act) {
	t.Helper()
	pairs, fault := races.Find(text, script)
	if _, want := check.Check(text); fault != want {
		t.Fatalf("%v, not %v of\n%s", fault, want, text)
	}
	if fault.Code != api.OK {
		if len(pairs) > 0 {
			t.Fatalf("%v and %v of\n%s", fault, pairs, text)
		}
		return nil, nil
	}
	acts = actsOf(text, script)
	if want, _ := racesAgain(acts, ""); len(want)+len(pairs) > 0 && !reflect.DeepEqual(pairs, want) {
		t.Fatalf("%v, not\n%v by %v of\n%s", pairs, want, script, text)
	}
	printed, _ := syntax.Print(text)
	if other, fault := races.Find(printed, script); fault.Code == api.OK && !slices.Equal(pairs, other) {
		t.Fatalf("%v, not\n%v when it is printed, by %v of\n%s", pairs, other, script, text)
	}
	return pairs, acts
}

// TestRacesAgain holds what races in runs of made programs against the second way.
func TestRacesAgain(t *testing.T) {
	r := rand.New(rand.NewSource(24))
	racing, ordered, same := 0, 0, 0
	turned := map[string]int{} // by rules, in how many runs it would be otherwise without
	for round := range 600 {
		text := racyMade(r)
		if round%4 == 0 {
			text = []string{made(r), livelyMade(r), thingsMade(r), deedsMade(r)}[r.Intn(4)]
		}
		for range 3 {
			pairs, acts := holdRaces(t, text, scriptOf(r))
			racing += len(pairs)
			for _, pair := range pairs {
				if pair[0] == pair[1] {
					same++
				}
			}
			_, many := racesAgain(acts, "")
			ordered += many
			for _, rule := range rules {
				if other, _ := racesAgain(acts, rule); !slices.Equal(pairs, other) {
					turned[rule]++
				}
			}
		}
		holdRaces(t, spoilt(r, text), nil)
	}
	if racing < 5000 || ordered < 5000 || same < 100 {
		t.Error("too few race, are in order, race by one node:", racing, ordered, same)
	}
	for _, rule := range rules {
		if turned[rule] < 30 {
			t.Error("this rule matters in too few runs:", rule, turned[rule])
		}
	}
}

// FuzzRaces holds any text against the second way.
func FuzzRaces(f *testing.F) {
	r := rand.New(rand.NewSource(25))
	for range 20 {
		f.Add(livelyMade(r), []byte{1, 2, 3})
		f.Add(racyMade(r), []byte{1, 0, 4, 2, 1, 1})
	}
	f.Fuzz(func(t *testing.T, text string, picks []byte) {
		var script []int
		for _, pick := range picks {
			script = append(script, int(int8(pick)))
		}
		holdRaces(t, text, script)
	})
}
