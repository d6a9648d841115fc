package whole

import (
	"cmp"
	"maps"
	"math/rand"
	"reflect"
	"slices"
	"strings"
	"testing"

	"ravel/api"
	"ravel/check"
	"ravel/points"
	"ravel/syntax"
)

// This is a second way to tell what can be where: all rules are gone through again and again, with what is there by then, until nothing comes any more.

type spots struct {
	outside
	types []string
	uses  []int
	held  map[spot]map[int]bool
	pairs map[[2]int]bool // a KCall, and what it can call
	more  bool            // something has come in this round
}

func newSpots(text string) *spots {
	nodes, _ := syntax.Parse(text)
	types, _ := check.Check(text)
	uses, _ := check.Uses(text)
	s := &spots{newOutside(nodes), types, uses, map[spot]map[int]bool{}, map[[2]int]bool{}, true}
	for s.more {
		s.more = false
		for number := range nodes {
			s.rule(number)
		}
	}
	return s
}

func (s *spots) give(to spot, site int) {
	if s.held[to] == nil {
		s.held[to] = map[int]bool{}
	}
	s.more = s.more || !s.held[to][site]
	s.held[to][site] = true
}

func (s *spots) copy(from, to spot) {
	for _, site := range s.list(from) {
		s.give(to, site)
	}
}

// list answers what is there by now, rising.
func (s *spots) list(of spot) []int { return slices.Sorted(maps.Keys(s.held[of])) }

// at answers what is at a node by now.
func (s *spots) at(node int) []int { return s.list(spot{node: node}) }

// isField tells whether a KDot is of a field.
func (s *spots) isField(dot int) bool {
	n := s.nodes[dot]
	return slices.ContainsFunc(s.nodes, func(decl api.Node) bool {
		return decl.Kind == api.KStruct && "*"+decl.Text == s.types[n.Kids[0]] && slices.ContainsFunc(decl.Kids, func(field int) bool { return s.nodes[field].Text == n.Text })
	})
}

func (s *spots) method(owner, name string) int {
	return slices.IndexFunc(s.nodes, func(n api.Node) bool {
		return n.Kind == api.KMethod && n.Text == name && s.nodes[s.nodes[n.Kids[0]].Kids[0]].Text == owner
	})
}

func (s *spots) rule(number int) {
	n, here := s.nodes[number], spot{node: number}
	kid := func(place int) spot { return spot{node: n.Kids[place]} }
	switch n.Kind {
	case api.KNew, api.KMake, api.KLit:
		s.give(here, number)
	case api.KName:
		if use := s.uses[number]; s.kind(use) == api.KFunc {
			s.give(here, use)
		} else {
			s.copy(spot{node: use}, here)
		}
	case api.KDefine:
		s.copy(kid(0), here)
	case api.KAssign:
		left := s.nodes[n.Kids[0]]
		if left.Kind == api.KName {
			s.copy(kid(1), spot{node: s.uses[n.Kids[0]]})
			break
		}
		for _, site := range s.at(left.Kids[0]) {
			s.copy(kid(1), spot{site, true, left.Text})
		}
	case api.KDot:
		if !s.isField(number) {
			s.give(here, number)
			break
		}
		for _, site := range s.at(n.Kids[0]) {
			s.copy(spot{site, true, n.Text}, here)
		}
	case api.KRecv, api.KCaseRecv:
		for _, site := range s.at(n.Kids[0]) {
			s.copy(spot{node: site, inside: true}, here)
		}
	case api.KSend, api.KCaseSend:
		for _, site := range s.at(n.Kids[0]) {
			s.copy(kid(1), spot{node: site, inside: true})
		}
	case api.KAssert:
		for _, site := range s.at(n.Kids[0]) {
			if s.nodes[site].Text == s.nodes[n.Kids[1]].Text {
				s.give(here, site)
			}
		}
	case api.KReturn:
		if len(n.Kids) == 1 {
			s.copy(kid(0), spot{node: s.sig(s.function(number))})
		}
	case api.KCall:
		for _, site := range s.at(n.Kids[0]) {
			s.calls(number, site)
		}
	}
}

// calls calls what a site is: a method for each thing that stands ahead, or once, if a struct does.
func (s *spots) calls(number, site int) {
	n := s.nodes[site]
	if n.Kind != api.KDot {
		s.enter(number, site)
		return
	}
	if owner, is := strings.CutPrefix(s.types[n.Kids[0]], "*"); is {
		s.enter(number, s.method(owner, n.Text))
	}
	for _, thing := range s.at(n.Kids[0]) {
		method := s.method(s.nodes[thing].Text, n.Text)
		s.give(spot{node: s.nodes[method].Kids[0]}, thing)
		s.enter(number, method)
	}
}

func (s *spots) enter(number, function int) {
	s.pairs[[2]int{number, function}] = true
	sig := s.sig(function)
	for place, value := range s.nodes[number].Kids[1:] {
		s.copy(spot{node: value}, spot{node: s.nodes[sig].Kids[place]})
	}
	s.copy(spot{node: sig}, spot{node: number})
}

// pointsAgain has what is told of where things can be.
type pointsAgain struct {
	sets   [][]int
	fields []api.Held
}

func (s *spots) look() pointsAgain {
	p := pointsAgain{sets: make([][]int, len(s.nodes))}
	for where := range s.held {
		if where.inside {
			p.fields = append(p.fields, api.Held{Site: where.node, Name: where.name, Set: s.list(where)})
		} else {
			p.sets[where.node] = s.list(where)
		}
	}
	slices.SortFunc(p.fields, func(a, b api.Held) int {
		return cmp.Or(a.Site-b.Site, strings.Compare(a.Name, b.Name))
	})
	return p
}

func (p pointsAgain) equal(other pointsAgain) bool {
	return equalLists(p.sets, other.sets) && slices.EqualFunc(p.fields, other.fields, func(a, b api.Held) bool { return reflect.DeepEqual(a, b) })
}

// has tells whether a site can be somewhere.
func (p pointsAgain) has(where spot, site int) bool {
	if !where.inside {
		return slices.Contains(p.sets[where.node], site)
	}
	return slices.ContainsFunc(p.fields, func(h api.Held) bool {
		return h.Site == where.node && h.Name == where.name && slices.Contains(h.Set, site)
	})
}

// pointsOf asks the faces; both answer one fault.
func pointsOf(t *testing.T, text string) (pointsAgain, api.Fault) {
	t.Helper()
	sets, first := points.Sets(text)
	fields, second := points.Fields(text)
	if first != second {
		t.Fatalf("%v, %v of\n%s", first, second, text)
	}
	return pointsAgain{sets, fields}, first
}

// holdPoints holds what is told of a text's things against the second way, and against that of the printed text, which has the same nodes.
func holdPoints(t *testing.T, text string) pointsAgain {
	t.Helper()
	got, fault := pointsOf(t, text)
	if _, want := check.Check(text); fault != want {
		t.Fatalf("%v, not %v of\n%s", fault, want, text)
	}
	if fault.Code != api.OK {
		if !got.equal(pointsAgain{}) {
			t.Fatalf("%v and %v of\n%s", fault, got, text)
		}
		return got
	}
	if want := newSpots(text).look(); !got.equal(want) {
		t.Fatalf("%v, not\n%v of\n%s", got, want, text)
	}
	printed, _ := syntax.Print(text)
	if other, fault := pointsOf(t, printed); fault.Code == api.OK && !got.equal(other) {
		t.Fatalf("%v, not\n%v when it is printed, of\n%s", got, other, text)
	}
	return got
}

// siteOf answers the site of a thing; of what is none -1.
func siteOf(held any) int {
	switch x := held.(type) {
	case *object:
		return x.site
	case *pipe:
		return x.site
	case *routine:
		return x.site
	}
	return -1
}

// holdSeen holds that in a run things are just where they can be. It answers where which ones were.
func holdSeen(t *testing.T, text string, script []int, told pointsAgain) map[spot]map[int]bool {
	t.Helper()
	m, _ := readAgain(text)
	seen := map[spot]map[int]bool{}
	m.sees = func(where spot, held any) {
		site := siteOf(held)
		if site < 0 || seen[where][site] {
			return
		}
		if !told.has(where, site) {
			t.Fatalf("%d is seen at %v of\n%s", site, where, text)
		}
		if seen[where] == nil {
			seen[where] = map[int]bool{}
		}
		seen[where][site] = true
	}
	trace, _ := m.run(script)
	m.sees = nil
	if plain, _ := m.run(script); !reflect.DeepEqual(trace, plain) {
		t.Fatalf("%v, not %v of\n%s", trace, plain, text)
	}
	return seen
}

// TestPointsAgain holds where things can be in made programs against the second way, and against their runs.
func TestPointsAgain(t *testing.T) {
	r := rand.New(rand.NewSource(14))
	sites, several, inside, seen := 0, 0, 0, 0
	kinds := map[int]int{} // of the nodes at which something was seen
	for round := range 400 {
		text := thingsMade(r)
		if round%4 == 0 {
			text = []string{made(r), livelyMade(r)}[r.Intn(2)]
		}
		nodes, _ := syntax.Parse(text)
		told := holdPoints(t, text)
		for _, set := range told.sets {
			sites += len(set)
			several += max(0, len(set)-1)
		}
		inside += len(told.fields)
		for range 2 {
			for where, list := range holdSeen(t, text, scriptOf(r), told) {
				seen += len(list)
				if !where.inside {
					kinds[nodes[where.node].Kind]++
				}
			}
		}
		holdPoints(t, spoilt(r, text))
	}
	if sites < 50000 || several < 15000 || inside < 4000 || seen < 40000 {
		t.Error("too few sites are told, several at one node, fields, or too few are seen:", sites, several, inside, seen)
	}
	for _, kind := range []int{api.KNew, api.KMake, api.KLit, api.KName, api.KDefine, api.KParam, api.KDot, api.KRecv, api.KCaseRecv, api.KAssert, api.KSig, api.KCall} {
		if kinds[kind] < 50 {
			t.Error("too few things are seen at nodes of this kind:", kind, kinds[kind])
		}
	}
}

// FuzzPoints holds any text against the second way, and a run of it.
func FuzzPoints(f *testing.F) {
	r := rand.New(rand.NewSource(15))
	for range 20 {
		f.Add(made(r))
		f.Add(thingsMade(r))
	}
	f.Fuzz(func(t *testing.T, text string) {
		if told := holdPoints(t, text); len(told.sets) > 0 {
			holdSeen(t, text, nil, told)
		}
	})
}
