package run

import (
	"strings"

	"ravel/api"
	"ravel/reckon"
	"ravel/turns"
)

// expr does an expression, and answers its value.
func (t *thread) expr(number int, s *scope) value {
	t.begin(number)
	n := t.Nodes[number]
	switch n.Kind {
	case api.KNumber:
		return int64(n.Num)
	case api.KTruth:
		return n.Num == 1
	case api.KName:
		return t.name(number, s)
	case api.KDot:
		return t.dot(number, s)
	case api.KCall:
		f, values := t.called(number, s)
		return t.call(number, f, values)
	case api.KAssert:
		return t.assert(number, s)
	case api.KLit:
		return &function{node: number, scope: s}
	case api.KNew:
		return t.newThing(n.Text)
	case api.KMake:
		return &turns.Channel{Room: n.Num, Zero: t.zero(n.Kids[0])}
	case api.KNot:
		return !t.truth(n.Kids[0], s)
	case api.KNeg:
		return -t.number(n.Kids[0], s)
	case api.KRecv:
		return t.stand(trading(number, t.receiving(number, s))).Held
	case api.KBinary:
		return t.binary(number, s)
	}
	return nil
}

func (t *thread) number(number int, s *scope) int64 {
	return t.expr(number, s).(int64)
}

func (t *thread) truth(number int, s *scope) bool {
	return t.expr(number, s).(bool)
}

// channel does an expression that is a channel, or nil.
func (t *thread) channel(number int, s *scope) *turns.Channel {
	c, _ := t.expr(number, s).(*turns.Channel)
	return c
}

func (t *thread) name(number int, s *scope) value {
	use := t.Uses[number]
	if t.Nodes[use].Kind == api.KFunc {
		return &function{node: use}
	}
	return t.touch(Reads, number, s.find(use)).held
}

// newThing makes a thing of a struct.
func (t *thread) newThing(owner string) *thing {
	made := thing{owner: owner}
	for _, field := range t.fields(owner) {
		made.fields = append(made.fields, variable{held: t.zero(t.Nodes[field].Kids[0])})
	}
	return &made
}

// there answers the thing that a value is; of nil the run falls at a node.
func (t *thread) there(number int, v value) *thing {
	x, is := v.(*thing)
	if !is {
		t.fall(number)
	}
	return x
}

// field answers the field that a KDot is of, when what stands ahead of it is done.
func (t *thread) field(number int, ahead value) *variable {
	x := t.there(number, ahead)
	return &x.fields[t.place(x.owner, t.Nodes[number].Text)]
}

func (t *thread) dot(number int, s *scope) value {
	n := t.Nodes[number]
	ahead := t.expr(n.Kids[0], s)
	owner, isPointer := strings.CutPrefix(t.Texts[n.Kids[0]], "*")
	if isPointer && t.place(owner, n.Text) >= 0 {
		return t.touch(Reads, number, t.field(number, ahead)).held
	}
	if !isPointer {
		owner = t.there(number, ahead).owner
	}
	return &function{node: t.method(owner, n.Text), ahead: []value{ahead}}
}

// called does the parts of a KCall: what is called, which falls if it is nil, then the values.
func (t *thread) called(number int, s *scope) (*function, []value) {
	kids := t.Nodes[number].Kids
	f, is := t.expr(kids[0], s).(*function)
	if !is {
		t.fall(number)
	}
	var values []value
	for _, kid := range kids[1:] {
		values = append(values, t.expr(kid, s))
	}
	return f, values
}

func (t *thread) assert(number int, s *scope) value {
	kids := t.Nodes[number].Kids
	x := t.there(number, t.expr(kids[0], s))
	if "*"+x.owner != t.Texts[kids[1]] {
		t.fall(number)
	}
	return x
}

// binary does the right side just if the left one does not decide.
func (t *thread) binary(number int, s *scope) value {
	n := t.Nodes[number]
	left := t.expr(n.Kids[0], s)
	if n.Text == "&&" && left == false || n.Text == "||" && left == true {
		return left
	}
	right := t.expr(n.Kids[1], s)
	switch n.Text {
	case "&&", "||":
		return right
	case "==":
		return left == right
	case "!=":
		return left != right
	}
	return t.reckon(number, left.(int64), right.(int64))
}

// reckon answers what an operator makes of two numbers.
func (t *thread) reckon(number int, left, right int64) value {
	made, is := reckon.Two(t.Nodes[number].Text, left, right)
	if !is {
		t.fall(number)
	}
	if t.Texts[number] == "bool" {
		return made == 1
	}
	return made
}
