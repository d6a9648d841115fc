package consts

import (
	"ravel/api"
	"ravel/reckon"
)

// What is known of a value, besides nothing: then it is not there.
const (
	always   = 1
	anything = 2
)

// together answers what is known where two values come together.
func together(a, b api.Known) api.Known {
	switch {
	case a == b || b == api.Known{}:
		return a
	case a == api.Known{}:
		return b
	}
	return api.Known{State: anything}
}

// own answers the expressions that a station looks at, without those within them.
func (s *solver) own(station int) []int {
	n := s.Nodes[station]
	switch n.Kind {
	case api.KAssign:
		// What stands left is not looked at, but what stands ahead of its `.` is.
		return append(s.exprs(s.Nodes[n.Kids[0]].Kids), n.Kids[1])
	case api.KSelect:
		var out []int
		for _, branch := range n.Kids {
			out = append(out, s.exprs(s.Nodes[branch].Kids)...)
		}
		return out
	}
	return s.exprs(n.Kids)
}

// exprs answers the expressions of a list.
func (s *solver) exprs(list []int) []int {
	var out []int
	for _, number := range list {
		if s.Nodes[number].Kind >= api.KNumber {
			out = append(out, number)
		}
	}
	return out
}

// isPlain tells whether an expression is a number or a truth value.
func (s *solver) isPlain(number int) bool {
	return s.Texts[number] == "int" || s.Texts[number] == "bool"
}

// expr looks at an expression, and at those within it, and answers what is known of it. Of what is no number and no truth value nothing is.
func (s *solver) expr(number int, ahead variables) api.Known {
	value := s.look(number, ahead)
	if !s.isPlain(number) {
		value = api.Known{}
	}
	s.known[number] = value
	return value
}

func (s *solver) look(number int, ahead variables) api.Known {
	n := s.Nodes[number]
	switch variable := s.Reads[number]; {
	case n.Kind == api.KNumber || n.Kind == api.KTruth:
		return api.Known{State: always, Num: n.Num}
	case n.Kind == api.KName && variable >= 0:
		return ahead[variable]
	case n.Kind == api.KNeg:
		return two("-", api.Known{State: always}, s.expr(n.Kids[0], ahead))
	case n.Kind == api.KNot:
		return two("-", api.Known{State: always, Num: 1}, s.expr(n.Kids[0], ahead))
	case n.Text == "&&":
		return s.short(n, 0, ahead)
	case n.Text == "||":
		return s.short(n, 1, ahead)
	}
	for _, kid := range s.exprs(n.Kids) {
		s.expr(kid, ahead)
	}
	if n.Kind == api.KBinary && s.isPlain(n.Kids[0]) {
		return two(n.Text, s.known[n.Kids[0]], s.known[n.Kids[1]])
	}
	return api.Known{State: anything}
}

// short answers what is known of a `&&` or a `||`, which a number of either side decides. If the left side does, nobody looks at the right one, nor at what is within it.
func (s *solver) short(n api.Node, deciding int, ahead variables) api.Known {
	decided := api.Known{State: always, Num: deciding}
	left := s.expr(n.Kids[0], ahead)
	if left == decided {
		return decided
	}
	right := s.expr(n.Kids[1], ahead)
	if right == decided {
		return decided
	}
	// Both are the other number, and that is 1 times 1, or 0 times 0; or they are not known so well.
	return two("*", left, right)
}

// two answers what is known of what an operator makes of two values.
func two(sign string, left, right api.Known) api.Known {
	switch {
	case left == api.Known{} || right == api.Known{}:
		return api.Known{}
	case left.State == anything || right.State == anything:
		return api.Known{State: anything}
	}
	made, is := reckon.Two(sign, int64(left.Num), int64(right.Num))
	if !is {
		return api.Known{State: anything}
	}
	return api.Known{State: always, Num: int(made)}
}
