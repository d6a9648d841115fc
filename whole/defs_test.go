package whole

import (
	"math/rand"
	"reflect"
	"slices"
	"strings"
	"testing"

	"ravel/api"
	"ravel/check"
	"ravel/defs"
	"ravel/syntax"
)

// This is a second way to tell where values come from: of each name, and of each station, the ways are gone by themselves, backward and forward, one variable after the other.

type sources struct {
	outside
	uses    []int
	ahead   map[int][]int   // of each station those from which an edge leads to it
	names   map[int][]int   // of each variable its names that read
	reached map[int]bool    // stations
	sets    map[[2]int]bool // a statement, and the variable that it sets
}

func newSources(nodes []api.Node, uses []int) sources {
	s := sources{newOutside(nodes), uses, map[int][]int{}, map[int][]int{}, map[int]bool{}, map[[2]int]bool{}}
	for number, n := range nodes {
		if s.isStation(number) {
			for _, to := range s.next(number) {
				s.ahead[to] = append(s.ahead[to], number)
			}
		}
		if isBody(n.Kind) {
			s.come(number, -1, s.reached)
		}
		switch n.Kind {
		case api.KDefine:
			s.sets[[2]int{number, number}] = true
		case api.KAssign:
			s.sets[[2]int{number, uses[n.Kids[0]]}] = true
		case api.KName:
			if parent := s.parents[number]; s.kind(parent) != api.KAssign || nodes[parent].Kids[0] != number {
				s.names[uses[number]] = append(s.names[uses[number]], number)
			}
		}
	}
	return s
}

// station answers the one in which a name stands.
func (s sources) station(name int) int {
	for !s.isStation(name) {
		name = s.parents[name]
	}
	return name
}

// variables answers those that are named, of which it is known whether they are shared.
func (s sources) variables() map[int]bool {
	out := map[int]bool{}
	for name, use := range s.uses {
		if use >= 0 && s.kind(use) != api.KFunc {
			out[use] = out[use] || s.function(name) != s.function(use)
		}
	}
	return out
}

// setBy answers the node that sets a variable when one goes on from a station to another one, or -1.
func (s sources) setBy(from, to, variable int) int {
	if s.sets[[2]int{from, variable}] {
		return from
	}
	if s.kind(variable) == api.KCaseRecv && s.parents[variable] == from && s.begin(s.nodes[variable].Kids[1]) == to {
		return variable
	}
	if s.kind(variable) == api.KParam && isBody(s.kind(from)) {
		return variable
	}
	return -1
}

// back goes backward from a station up to where a variable was set, and answers where that was.
func (s sources) back(station, variable int, seen map[int]bool) []int {
	if seen[station] {
		return nil
	}
	seen[station] = true
	var out []int
	for _, from := range s.ahead[station] {
		if by := s.setBy(from, station, variable); by >= 0 {
			out = append(out, by)
		} else {
			out = append(out, s.back(from, variable, seen)...)
		}
	}
	return out
}

// isNeeded tells whether one comes from a station to one that reads the variable, ahead of setting it.
func (s sources) isNeeded(station, variable int, readers, seen map[int]bool) bool {
	if seen[station] || readers[station] {
		return readers[station]
	}
	seen[station] = true
	return slices.ContainsFunc(s.next(station), func(to int) bool {
		return s.setBy(station, to, variable) < 0 && s.isNeeded(to, variable, readers, seen)
	})
}

// defsAgain has what is told of a program's variables. Lists without anything are nil.
type defsAgain struct {
	shared, idle  []int
	comes, needed [][]int
}

func (s sources) look() defsAgain {
	d := defsAgain{make([]int, len(s.nodes)), nil, make([][]int, len(s.nodes)), make([][]int, len(s.nodes))}
	own := map[int]bool{}
	for variable, shared := range s.variables() {
		if shared {
			d.shared[variable] = 1
			continue
		}
		own[variable] = true
		readers := map[int]bool{}
		for _, name := range s.names[variable] {
			station := s.station(name)
			readers[station] = true
			if s.reached[station] {
				list := s.back(station, variable, map[int]bool{})
				slices.Sort(list)
				d.comes[name] = slices.Compact(list)
			}
		}
		for station := range s.reached {
			if s.isNeeded(station, variable, readers, map[int]bool{}) {
				d.needed[station] = append(d.needed[station], variable)
			}
		}
	}
	for _, list := range d.needed {
		slices.Sort(list)
	}
	for pair := range s.sets {
		station, variable := pair[0], pair[1]
		// What nobody names is not shared.
		isOwn := own[variable] || s.kind(station) == api.KDefine && d.shared[station] == 0
		if s.reached[station] && isOwn && variable >= 0 && !slices.Contains(d.needed[s.next(station)[0]], variable) {
			d.idle = append(d.idle, station)
		}
	}
	slices.Sort(d.idle)
	return d
}

// setters writes functions in which few variables are set and read, by chance. In all of them a, b, c, d are numbers, and e is a channel of them.
type setters struct {
	*rand.Rand
	left  int // how much more is to be written
	loops int // around, in the same function
}

func (s *setters) one(texts ...string) string { return texts[s.Intn(len(texts))] }

func (s *setters) name() string { return s.one("a", "b", "c", "d") }

func (s *setters) value(deep int) string {
	switch s.Intn(9) {
	case 0, 1:
		return s.one("0", "1", "7")
	case 2, 3:
		return s.name() + s.one(" + ", " - ") + s.name()
	case 4:
		if deep > 0 && s.left > 0 {
			return s.call(deep - 1)
		}
	case 5:
		return "-" + s.name()
	}
	return s.name()
}

func (s *setters) condition() string {
	return s.name() + s.one(" < ", " == ", " > ") + s.one("3", s.name())
}

// call writes a literal that is called on the spot. Mostly it has all variables anew.
func (s *setters) call(deep int) string {
	loops := s.loops
	s.loops = 0
	text := "func(" + s.one("a int, b int", "c int, b int", "a int, d int") + ") int { " +
		s.one("", "c := a; d := 1; ", "if true { return 1 }; a := 1; b := 2; c := 3; d := 4; ") + s.stmts(deep) + s.one("", "return "+s.name()) + " }"
	s.loops = loops
	return text + "(" + s.value(0) + ", " + s.value(0) + ")"
}

func (s *setters) stmts(deep int) string {
	text := ""
	for _, name := range []string{"a", "b", "c", "d"} {
		if s.Intn(9) == 0 {
			text += name + " := " + s.value(0) + "; "
		}
	}
	for range 1 + s.Intn(4) {
		if s.left > 0 {
			text += s.stmt(deep) + "; "
		}
	}
	return text
}

func (s *setters) block(deep int) string { return "{ " + s.stmts(deep-1) + " }" }

func (s *setters) stmt(deep int) string {
	s.left--
	if deep > 0 {
		switch s.Intn(16) {
		case 0:
			return "if " + s.condition() + " " + s.block(deep)
		case 1:
			return "if " + s.condition() + " " + s.block(deep) + " else " + s.block(deep)
		case 2:
			return "if " + s.condition() + " " + s.block(deep) + " else if " + s.condition() + " " + s.block(deep)
		case 3, 4:
			return s.loop(deep)
		case 5:
			return s.selectOf(deep)
		}
	}
	switch s.Intn(16) {
	case 0:
		if s.loops > 0 {
			return "break"
		}
	case 1:
		return s.one("return "+s.value(0), "panic("+s.name()+")", "select {}", "print(1)", "print(2)", "print(3)")
	case 2, 3:
		return "print(" + s.value(deep) + ")"
	case 4:
		return "e <- " + s.value(0)
	}
	return s.name() + " = " + s.value(deep)
}

func (s *setters) loop(deep int) string {
	s.loops++
	defer func() { s.loops-- }()
	return "for " + s.condition() + " " + s.block(deep)
}

func (s *setters) selectOf(deep int) string {
	text := "select { "
	for range s.Intn(4) {
		text += "case " + s.one(s.name()+" := <-e", s.name()+" := <-e", "<-e", "e <- "+s.value(0)) + ": " + s.one("", s.stmts(deep-1), s.stmts(deep-1), s.loop(deep-1)+"; ")
	}
	return text + s.one("", "default: "+s.stmts(deep-1)) + "}"
}

// setterMade answers a program that may be, in which few variables are set and read in many ways.
func setterMade(r *rand.Rand) string {
	for {
		s := setters{Rand: r, left: 5 + r.Intn(60)}
		text := "type A struct { n int }\nfunc (a *A) m(b int, e chan int) int { c := a.n; d := 2; a := b; " + s.stmts(4) + "}\n" +
			"func f(a int, b int, e chan int) int { c := 3; d := 4; " + s.stmts(5) + s.stmts(5) + "return " + s.name() + " }\n" +
			"func main() { e := make(chan int, 3); e <- 5; e <- 6; print(f(1, 2, e)); x := new(A); print(x.m(3, e)) }"
		// Now and then names are there twice in a block, or it is too deep.
		if _, fault := check.Check(text); fault == (api.Fault{}) {
			return text
		}
	}
}

// defsOf asks the faces; all answer one fault.
func defsOf(t *testing.T, text string) (defsAgain, api.Fault) {
	t.Helper()
	shared, first := defs.Shared(text)
	comes, second := defs.Comes(text)
	needed, third := defs.Needed(text)
	idle, fourth := defs.Idle(text)
	if first != second || first != third || first != fourth {
		t.Fatalf("%v, %v, %v, %v of\n%s", first, second, third, fourth, text)
	}
	return defsAgain{shared, idle, comes, needed}, first
}

func equalLists(a, b [][]int) bool { return slices.EqualFunc(a, b, slices.Equal[[]int]) }

func (d defsAgain) equal(other defsAgain) bool {
	return slices.Equal(d.shared, other.shared) && slices.Equal(d.idle, other.idle) && equalLists(d.comes, other.comes) && equalLists(d.needed, other.needed)
}

// holdDefs holds what is told of a text's variables against the second way, and against that of the printed text, which has the same nodes.
func holdDefs(t *testing.T, text string) defsAgain {
	t.Helper()
	got, fault := defsOf(t, text)
	uses, want := check.Uses(text)
	if fault != want {
		t.Fatalf("%v, not %v of\n%s", fault, want, text)
	}
	if fault.Code != api.OK {
		if !got.equal(defsAgain{}) {
			t.Fatalf("%v and %v of\n%s", fault, got, text)
		}
		return got
	}
	nodes, _ := syntax.Parse(text)
	if again := newSources(nodes, uses).look(); !got.equal(again) {
		t.Fatalf("%v, not\n%v of\n%s", got, again, text)
	}
	printed, _ := syntax.Print(text)
	if other, fault := defsOf(t, printed); fault.Code == api.OK && !got.equal(other) {
		t.Fatalf("%v, not %v when it is printed, of\n%s", got, other, text)
	}
	return got
}

// holdReads holds that what is read in a run comes from where it may, was not set idly, and was needed all the way. It answers how many pairs of names, and where their values come from, the run has.
func holdReads(t *testing.T, text string, script []int, told defsAgain) int {
	t.Helper()
	m, _ := readAgain(text)
	read := map[[2]int]bool{}
	m.reads = func(way []int, name int, of *cell) {
		variable := m.uses[name]
		if told.shared[variable] == 1 {
			return
		}
		read[[2]int{name, of.by}] = true
		if !slices.Contains(told.comes[name], of.by) || slices.Contains(told.idle, of.by) {
			t.Fatalf("%d is set by %d, but %v comes there, and %v are idle, in\n%s", name, of.by, told.comes[name], told.idle, text)
		}
		for _, station := range way[of.since:] {
			if !slices.Contains(told.needed[station], variable) {
				t.Fatalf("%d is read at %d, but at %d %v is needed, in\n%s", variable, name, station, told.needed[station], text)
			}
		}
	}
	trace, _ := m.run(script)
	m.reads = nil
	if plain, _ := m.run(script); !reflect.DeepEqual(trace, plain) {
		t.Fatalf("%v, not %v of\n%s", trace, plain, text)
	}
	return len(read)
}

// TestDefsAgain holds what is told of variables of made programs against the second way, and against their runs.
func TestDefsAgain(t *testing.T) {
	r := rand.New(rand.NewSource(12))
	shared, several, unreached, received, needed, idle, read := 0, 0, 0, 0, 0, 0, 0
	for round := range 600 {
		text := setterMade(r)
		if round%6 == 0 {
			text = []string{made(r), livelyMade(r), roundMade(r)}[r.Intn(3)]
		}
		told := holdDefs(t, text)
		nodes, _ := syntax.Parse(text)
		flow, _ := flowOf(t, text)
		for _, list := range told.comes {
			several += max(0, len(list)-1)
			for _, by := range list {
				if nodes[by].Kind == api.KCaseRecv {
					received++
				}
				if nodes[by].Kind == api.KAssign && flow.reached[by] == 0 {
					unreached++
				}
			}
		}
		for number := range nodes {
			shared += told.shared[number]
			needed += len(told.needed[number])
		}
		idle += len(told.idle)
		read += holdReads(t, text, scriptOf(r), told)
		holdDefs(t, spoilt(r, text))
	}
	if shared < 300 || several < 3000 || unreached < 400 || received < 100 || needed < 30000 || idle < 3000 || read < 5000 {
		t.Error("too few are shared, come from several nodes, from ones that are not reached, or are received, are needed, are idle, are read in runs:", shared, several, unreached, received, needed, idle, read)
	}
}

// FuzzDefs holds any text against the second way, and a run of it.
func FuzzDefs(f *testing.F) {
	r := rand.New(rand.NewSource(13))
	for range 20 {
		f.Add(made(r))
		f.Add(setterMade(r))
	}
	f.Add("func f(a int){for a<2{a=a+1;select{}}};func main(){" + strings.Repeat("x:=1;if true{", 5) + strings.Repeat("}", 6))
	f.Fuzz(func(t *testing.T, text string) {
		if told := holdDefs(t, text); len(told.shared) > 0 {
			holdReads(t, text, nil, told)
		}
	})
}
