package syntax

import "ravel/api"

// level tells how tightly an expression holds together.
func level(n api.Node) int {
	switch n.Kind {
	case api.KBinary:
		return signLevel(n.Text)
	case api.KNot, api.KNeg, api.KRecv:
		return levelAhead
	}
	return levelPart
}

// within writes an expression, in brackets if need be.
func (p *printer) within(n int, brackets bool) {
	if !brackets {
		p.expr(n)
		return
	}
	p.put("(")
	p.expr(n)
	p.put(")")
}

// atLeast writes an expression, in brackets if it holds less tightly than it must.
func (p *printer) atLeast(must, n int) {
	p.within(n, level(p.nodes[n]) < must)
}

func (p *printer) expr(number int) {
	n := p.nodes[number]
	switch n.Kind {
	case api.KNumber:
		p.number(n.Num)
	case api.KTruth:
		p.truth(n.Num)
	case api.KNil:
		p.put("nil")
	case api.KName:
		p.put(n.Text)
	case api.KDot:
		p.atLeast(levelPart, n.Kids[0])
		p.put(".", n.Text)
	case api.KCall:
		p.atLeast(levelPart, n.Kids[0])
		p.commas(n.Kids[1:], p.expr)
	case api.KAssert:
		p.atLeast(levelPart, n.Kids[0])
		p.put(".(")
		p.typ(n.Kids[1])
		p.put(")")
	case api.KLit:
		p.put("func")
		p.function(n.Kids)
	case api.KNew:
		p.put("new(", n.Text, ")")
	case api.KMake:
		p.makeOf(n)
	case api.KNot:
		p.signed("!", n)
	case api.KNeg:
		p.signed("-", n)
	case api.KRecv:
		p.signed("<-", n)
	case api.KBinary:
		p.binary(n)
	}
}

func (p *printer) truth(num int) {
	if num == 0 {
		p.put("false")
	} else {
		p.put("true")
	}
}

func (p *printer) makeOf(n api.Node) {
	p.put("make(chan ")
	p.typ(n.Kids[0])
	if n.Num > 0 {
		p.put(", ")
		p.number(n.Num)
	}
	p.put(")")
}

func (p *printer) signed(sign string, n api.Node) {
	p.put(sign)
	p.atLeast(levelAhead, n.Kids[0])
}

// binary writes an operator. Rows of them group to the left: so the right side has to hold more tightly than the operator itself.
func (p *printer) binary(n api.Node) {
	own := level(n)
	p.atLeast(own, n.Kids[0])
	p.put(" ", n.Text, " ")
	p.atLeast(own+1, n.Kids[1])
}

// beginsWithRecv tells whether an expression, written without brackets around, begins with "<-".
func (p *printer) beginsWithRecv(number int) bool {
	n := p.nodes[number]
	for n.Kind == api.KBinary {
		left := p.nodes[n.Kids[0]]
		if level(left) < level(n) {
			return false // there a "(" comes first
		}
		n = left
	}
	return n.Kind == api.KRecv
}
