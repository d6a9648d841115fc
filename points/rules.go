package points

import (
	"strings"

	"ravel/api"
)

// rule lays down what a node says of sets. A program that may be lets things just come to where their types fit: so ahead of a field stand but KNew of its struct, ahead of an interface's method but KNew of structs that have it.
func (s *Solver) rule(number int) {
	n := s.Nodes[number]
	switch n.Kind {
	case api.KNew, api.KMake, api.KLit:
		s.put(number, s.set(at(number)))
	case api.KName:
		s.name(number)
	case api.KDefine:
		s.within(at(n.Kids[0]), at(number))
	case api.KAssign:
		s.assign(n.Kids[0], n.Kids[1])
	case api.KDot:
		s.dot(number)
	case api.KRecv, api.KCaseRecv:
		s.each(at(n.Kids[0]), func(site int) { s.within(inChannel(site), at(number)) })
	case api.KSend, api.KCaseSend:
		s.each(at(n.Kids[0]), func(site int) { s.within(at(n.Kids[1]), inChannel(site)) })
	case api.KAssert:
		s.assert(number)
	case api.KReturn:
		if len(n.Kids) > 0 {
			s.within(at(n.Kids[0]), at(s.sig(s.Around(number))))
		}
	case api.KCall:
		s.each(at(n.Kids[0]), func(site int) { s.callBy(number, site) })
	}
}

// sig answers the number of a function's, method's or literal's KSig.
func (s *Solver) sig(function int) int {
	kids := s.Nodes[function].Kids
	return kids[len(kids)-2]
}

func (s *Solver) name(number int) {
	use := s.Uses[number]
	if s.Nodes[use].Kind == api.KFunc {
		s.put(use, s.set(at(number)))
		return
	}
	s.within(at(use), at(number))
}

func (s *Solver) assign(left, value int) {
	n := s.Nodes[left]
	if n.Kind == api.KName {
		s.within(at(value), at(s.Uses[left]))
		return
	}
	s.each(at(n.Kids[0]), func(site int) { s.within(at(value), inField(site, n.Text)) })
}

func (s *Solver) dot(number int) {
	n := s.Nodes[number]
	ahead := n.Kids[0]
	if s.Field(s.Texts[ahead], n.Text) < 0 {
		s.put(number, s.set(at(number)))
		return
	}
	s.each(at(ahead), func(site int) { s.within(inField(site, n.Text), at(number)) })
}

// assert lets through what is of the type that is asked for.
func (s *Solver) assert(number int) {
	target := s.set(at(number))
	s.each(at(s.Nodes[number].Kids[0]), func(site int) {
		if s.Texts[site] == s.Texts[number] {
			s.put(site, target)
		}
	})
}

// callBy lets a KCall call what the thing of a site is.
func (s *Solver) callBy(number, site int) {
	n := s.Nodes[site]
	if n.Kind != api.KDot {
		s.canCall(number, site)
		return
	}
	ahead := n.Kids[0]
	if typ := s.Texts[ahead]; strings.HasPrefix(typ, "*") {
		method := s.method(typ, n.Text)
		s.within(at(ahead), s.own(method))
		s.canCall(number, method)
		return
	}
	s.each(at(ahead), func(thing int) {
		method := s.method(s.Texts[thing], n.Text)
		s.put(thing, s.set(s.own(method)))
		s.canCall(number, method)
	})
}

// method answers the number of a KMethod of a type that is "*" and a struct's name.
func (s *Solver) method(typ, name string) int {
	return s.Around(s.Method(typ, name))
}

// own answers the place of a KMethod's own KParam.
func (s *Solver) own(method int) place {
	return at(s.Nodes[method].Kids[0])
}

// canCall hands over and back what a KCall and a function do. They are joined once, though the function may come to the call by several sites.
func (s *Solver) canCall(number, function int) {
	joined := call{number, function}
	if _, is := s.calls[joined]; is {
		return
	}
	s.calls[joined] = struct{}{}
	sig := s.sig(function)
	for i, value := range s.Nodes[number].Kids[1:] {
		s.within(at(value), at(s.Nodes[sig].Kids[i]))
	}
	s.within(at(sig), at(number))
}
