package consts

import (
	"ravel/api"
	"ravel/check"
	"ravel/defs"
)

// variables are what is known of variables, by their nodes. What is not there does not stand in it.
type variables map[int]api.Known

// way is a step, and whether one has gone on by it.
type way struct {
	defs.Step
	gone bool
}

// solver has what is known up to now. More of it just makes more stations go, and values known less.
type solver struct {
	defs.Table
	order []int       // the stations from which steps lead, in the order of the text: so most of what one comes to stands behind
	ways  [][]way     // of each station those that lead from there
	goes  []int       // of each node 1, if it is a station that goes, else 0
	ahead []variables // of each node what is known ahead of it
	news  []variables // of each node what of this has not been handed on; nil, if nothing is to be done
	known []api.Known // of each expression what it was when it was looked at last
}

// solve finds what is known of a program.
func solve(program check.Program) *solver {
	table := defs.Look(program)
	many := len(table.Nodes)
	s := &solver{
		Table: table,
		ways:  make([][]way, many),
		goes:  make([]int, many),
		ahead: make([]variables, many),
		news:  make([]variables, many),
		known: make([]api.Known, many),
	}
	for _, step := range s.Steps {
		if len(s.ways[step.From]) == 0 {
			s.order = append(s.order, step.From)
		}
		s.ways[step.From] = append(s.ways[step.From], way{Step: step})
	}
	s.begin()
	s.settle()
	return s
}

// begin lets all functions go. A function's node looks at no variable, so that its params are any ahead of it already says the same.
func (s *solver) begin() {
	for number, n := range s.Nodes {
		if check.IsFunction(n.Kind) {
			s.come(number)
			sig := s.Nodes[n.Kids[len(n.Kids)-2]]
			for _, param := range sig.Kids[:sig.Num] {
				s.put(number, param, api.Known{State: anything})
			}
		}
	}
}

// come lets a station go.
func (s *solver) come(station int) {
	if s.goes[station] == 0 {
		s.goes[station], s.ahead[station], s.news[station] = 1, variables{}, variables{}
	}
}

// put lets a value come together with what is known of a variable ahead of a station that goes.
func (s *solver) put(station, variable int, value api.Known) {
	old := s.ahead[station][variable]
	now := together(old, value)
	if now == old {
		return
	}
	s.ahead[station][variable] = now
	if s.news[station] == nil {
		s.news[station] = variables{}
	}
	s.news[station][variable] = now
}

// settle hands on what is new, until nothing is.
func (s *solver) settle() {
	for more := true; more; {
		more = false
		for _, station := range s.order {
			if news := s.news[station]; news != nil {
				s.news[station], more = nil, true
				s.leave(station, news)
			}
		}
	}
}

// leave goes on from a station by all ways that its condition lets: where it has gone before, just with what is new.
func (s *solver) leave(station int, news variables) {
	for place := range s.ways[station] {
		way := &s.ways[station][place]
		switch {
		case !s.leads(way.Step):
		case way.gone:
			s.hand(way.Step, news)
		default:
			way.gone = true
			s.hand(way.Step, s.ahead[station])
		}
	}
}

// hand goes along a step with what is known of variables.
func (s *solver) hand(step defs.Step, values variables) {
	s.come(step.To)
	set := s.Sets[step.Setter]
	for variable, value := range values {
		// What is set is another one then.
		if variable != set {
			s.put(step.To, variable, value)
		}
	}
	if set >= 0 {
		s.put(step.To, set, s.given(step))
	}
}

// given answers the value that is set on a step.
func (s *solver) given(step defs.Step) api.Known {
	n := s.Nodes[step.Setter]
	if n.Kind == api.KCaseRecv {
		return api.Known{State: anything}
	}
	return s.expr(n.Kids[len(n.Kids)-1], s.ahead[step.From])
}

// leads tells whether one goes on by a step, as far as its station's condition is known.
func (s *solver) leads(step defs.Step) bool {
	n := s.Nodes[step.From]
	if n.Kind != api.KIf && n.Kind != api.KFor {
		return true
	}
	switch s.expr(n.Kids[0], s.ahead[step.From]) {
	case api.Known{}:
		return false
	case api.Known{State: always, Num: 1}:
		return s.isOf(step, 1, 2)
	case api.Known{State: always, Num: 0}:
		return s.isOf(step, 2, 1)
	}
	return true
}

// isOf tells whether a step is that of one part of a statement (the place of a kid) and not of the other one. A part that is empty, or not there, leads to where the other one does not begin.
func (s *solver) isOf(step defs.Step, part, other int) bool {
	if first := s.first(step.From, part); first >= 0 {
		return step.To == first
	}
	return step.To != s.first(step.From, other)
}

// first answers the first station of a part of a KIf or a KFor; of an empty one, or none, -1.
func (s *solver) first(station, part int) int {
	kids := s.Nodes[station].Kids
	if part >= len(kids) {
		return -1
	}
	block := s.Nodes[kids[part]]
	switch {
	case block.Kind == api.KIf:
		return kids[part]
	case len(block.Kids) > 0:
		return block.Kids[0]
	case s.Nodes[station].Kind == api.KFor:
		return station
	}
	return -1
}

// values answers what is known of all expressions in stations that go.
func (s *solver) values() []api.Known {
	s.known = make([]api.Known, len(s.Nodes))
	for station, goes := range s.goes {
		if goes == 1 {
			for _, number := range s.own(station) {
				s.expr(number, s.ahead[station])
			}
		}
	}
	return s.known
}
