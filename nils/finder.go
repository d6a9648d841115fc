package nils

import (
	"strings"

	"ravel/api"
	"ravel/points"
)

// place is where nil can be: at a node, or inside of what it made, in a field or (the name is empty) in a channel.
type place struct {
	node   int
	inside bool
	name   string
}

func at(node int) place {
	return place{node: node}
}

func inField(site int, name string) place {
	return place{node: site, inside: true, name: name}
}

func inChannel(site int) place {
	return place{node: site, inside: true}
}

// finder finds where nil can be: rules put it somewhere, and tell where it goes on to from there.
type finder struct {
	*points.Solver
	ways  map[place][]place // of each place those to which nil goes on from there
	found map[place]struct{}
	todo  []place // the found ones from which nil is still to go on
}

// read finds where nil can be in a text's program, or tells what is wrong with the text; then it is nowhere.
func read(text string) (*finder, api.Fault) {
	solver, fault := points.Read(text)
	f := &finder{
		Solver: solver,
		ways:   map[place][]place{},
		found:  map[place]struct{}{},
	}
	for number := range f.Nodes {
		f.rule(number)
	}
	f.join()
	f.leave()
	f.settle()
	return f, fault
}

func (f *finder) has(p place) bool {
	_, is := f.found[p]
	return is
}

// put lets nil be at a place.
func (f *finder) put(p place) {
	if !f.has(p) {
		f.found[p] = struct{}{}
		f.todo = append(f.todo, p)
	}
}

// lead lets nil go on from one place to another one.
func (f *finder) lead(from, to place) {
	f.ways[from] = append(f.ways[from], to)
}

// each lets something be done to each site that can be at a node.
func (f *finder) each(node int, task func(site int)) {
	for _, site := range f.Sites(node) {
		task(site)
	}
}

// settle lets nil go on, until it comes nowhere new.
func (f *finder) settle() {
	for len(f.todo) > 0 {
		from := f.todo[len(f.todo)-1]
		f.todo = f.todo[:len(f.todo)-1]
		for _, to := range f.ways[from] {
			f.put(to)
		}
	}
}

// valueType answers the type of the value that is at a node; the empty text, if there is none, or it is not told whether it can be nil.
func (f *finder) valueType(number int) string {
	n := f.Nodes[number]
	switch {
	case n.Kind >= api.KNumber:
		return f.Texts[number]
	case n.Kind == api.KDefine, n.Kind == api.KParam:
		return f.Texts[n.Kids[0]]
	case n.Kind == api.KCaseRecv:
		return strings.TrimPrefix(f.Texts[n.Kids[0]], "chan ")
	case n.Kind == api.KSig && len(n.Kids) > n.Num:
		return f.Texts[n.Kids[n.Num]]
	}
	return ""
}

// isOfThings tells whether a type's zero value is nil.
func isOfThings(typ string) bool {
	return typ != "int" && typ != "bool" && typ != ""
}

// fallsOfNil tells whether a run falls at a node, if its first kid is nil.
func (f *finder) fallsOfNil(number int) bool {
	n := f.Nodes[number]
	switch n.Kind {
	case api.KCall, api.KAssert, api.KClose:
		return true
	case api.KDot:
		// A struct's method can be had of nil.
		return f.isOfField(number) || f.IsIface(f.Texts[n.Kids[0]])
	}
	return false
}
