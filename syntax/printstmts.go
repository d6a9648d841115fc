package syntax

import "ravel/api"

func (p *printer) stmt(number int) {
	n := p.nodes[number]
	switch n.Kind {
	case api.KDefine:
		p.put(n.Text, " := ")
		p.expr(n.Kids[0])
	case api.KAssign:
		p.sides(n.Kids, " = ")
	case api.KSend:
		p.sides(n.Kids, " <- ")
	case api.KDo:
		p.expr(n.Kids[0])
	case api.KGo:
		p.put("go ")
		p.expr(n.Kids[0])
	case api.KClose:
		p.wordStmt("close", n)
	case api.KPanic:
		p.wordStmt("panic", n)
	case api.KPrint:
		p.wordStmt("print", n)
	case api.KIf:
		p.ifStmt(n)
	case api.KFor:
		p.headed("for ", n)
	case api.KReturn:
		p.returnStmt(n)
	case api.KBreak:
		p.put("break")
	case api.KSelect:
		p.selectStmt(n)
	}
}

func (p *printer) sides(kids []int, sign string) {
	p.expr(kids[0])
	p.put(sign)
	p.expr(kids[1])
}

func (p *printer) wordStmt(word string, n api.Node) {
	p.put(word)
	p.commas(n.Kids, p.expr)
}

// headed writes a word, a condition and a block.
func (p *printer) headed(word string, n api.Node) {
	p.put(word)
	p.expr(n.Kids[0])
	p.put(" ")
	p.block(n.Kids[1])
}

func (p *printer) ifStmt(n api.Node) {
	p.headed("if ", n)
	if len(n.Kids) < 3 {
		return
	}
	p.put(" else ")
	if other := p.nodes[n.Kids[2]]; other.Kind == api.KIf {
		p.ifStmt(other)
	} else {
		p.block(n.Kids[2])
	}
}

func (p *printer) returnStmt(n api.Node) {
	p.put("return")
	for _, value := range n.Kids {
		p.put(" ")
		p.expr(value)
	}
}

func (p *printer) selectStmt(n api.Node) {
	p.put("select {\n")
	for _, c := range n.Kids {
		p.indent()
		p.caseHead(p.nodes[c])
		p.put(":\n")
		block := p.nodes[c].Kids[len(p.nodes[c].Kids)-1]
		p.rows(p.nodes[block].Kids, p.stmt)
	}
	p.indent()
	p.put("}")
}

func (p *printer) caseHead(n api.Node) {
	switch n.Kind {
	case api.KCaseRecv:
		p.put("case ")
		if n.Text != "" {
			p.put(n.Text, " := ")
		}
		p.put("<-")
		p.expr(n.Kids[0])
	case api.KCaseSend:
		p.put("case ")
		// Read again, a "<-" right behind the "case" would be that of a case that receives.
		p.within(n.Kids[0], p.beginsWithRecv(n.Kids[0]))
		p.put(" <- ")
		p.expr(n.Kids[1])
	case api.KCaseElse:
		p.put("default")
	}
}
