package syntax

import "ravel/api"

// How tightly expressions hold together: rows of operators (levelOr to levelTop) hold less than what has a sign ahead, that less than the rest.
const (
	levelOr = iota + 1
	levelAnd
	levelHeld
	levelSum
	levelTop
	levelAhead
	levelPart
)

// signLevel answers the level of an operator; 0: the text is no operator's.
func signLevel(sign string) int {
	switch sign {
	case "||":
		return levelOr
	case "&&":
		return levelAnd
	case "==", "!=", "<", "<=", ">", ">=":
		return levelHeld
	case "+", "-":
		return levelSum
	case "*", "/", "%":
		return levelTop
	}
	return 0
}

func (p *parser) expr() int {
	return p.row(levelOr)
}

// row reads parts that hold together more tightly than this level, with operators of this level between.
func (p *parser) row(level int) int {
	if level > levelTop {
		return p.one()
	}
	left := p.row(level + 1)
	for signLevel(p.look(0).Text) == level {
		sign := p.next()
		left = p.put(api.Node{Kind: api.KBinary, At: sign.At, Text: sign.Text}, left, p.row(level+1))
	}
	return left
}

// one reads a part with any number of signs ahead.
func (p *parser) one() int {
	switch p.look(0).Text {
	case "!":
		return p.signed(api.KNot)
	case "-":
		return p.signed(api.KNeg)
	case "<-":
		return p.signed(api.KRecv)
	}
	return p.part()
}

func (p *parser) signed(kind int) int {
	at := p.open("!", "-", "<-").At
	value := p.one()
	p.leave()
	return p.put(api.Node{Kind: kind, At: at}, value)
}

func (p *parser) part() int {
	n := p.first()
	for p.is(".", "(") {
		if p.is("(") {
			n = p.call(n)
		} else {
			n = p.dot(n)
		}
	}
	return n
}

func (p *parser) call(called int) int {
	at := p.look(0).At
	kids := append([]int{called}, p.listed(p.expr)...)
	return p.put(api.Node{Kind: api.KCall, At: at}, kids...)
}

func (p *parser) dot(left int) int {
	at := p.want(".").At
	if p.isKind(api.TokName) {
		return p.put(api.Node{Kind: api.KDot, At: at, Text: p.wantName()}, left)
	}
	p.open("(")
	typ := p.typ()
	p.shut(")")
	return p.put(api.Node{Kind: api.KAssert, At: at}, left, typ)
}

func (p *parser) first() int {
	next := p.look(0)
	switch next.Text {
	case "true":
		p.next()
		return p.put(api.Node{Kind: api.KTruth, At: next.At, Num: 1})
	case "false":
		p.next()
		return p.put(api.Node{Kind: api.KTruth, At: next.At})
	case "nil":
		p.next()
		return p.put(api.Node{Kind: api.KNil, At: next.At})
	case "(":
		p.open("(")
		n := p.expr()
		p.shut(")")
		return n
	case "func":
		p.next()
		sig := p.sig()
		return p.put(api.Node{Kind: api.KLit, At: next.At}, sig, p.block())
	case "new":
		return p.newOf()
	case "make":
		return p.makeOf()
	}
	if next.Kind == api.TokNumber {
		p.next()
		return p.put(api.Node{Kind: api.KNumber, At: next.At, Num: next.Num})
	}
	return p.put(api.Node{Kind: api.KName, At: next.At, Text: p.wantName()})
}

func (p *parser) newOf() int {
	at := p.want("new").At
	p.open("(")
	name := p.wantName()
	p.shut(")")
	return p.put(api.Node{Kind: api.KNew, At: at, Text: name})
}

func (p *parser) makeOf() int {
	at := p.want("make").At
	p.open("(")
	_, of := p.channel()
	room := 0
	if p.is(",") {
		p.next()
		room = p.wantKind(api.TokNumber).Num
	}
	p.shut(")")
	return p.put(api.Node{Kind: api.KMake, At: at, Num: room}, of)
}
