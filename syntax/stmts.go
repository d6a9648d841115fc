package syntax

import "ravel/api"

func (p *parser) block() int {
	at, kids := p.braced(p.stmt)
	return p.put(api.Node{Kind: api.KBlock, At: at}, kids...)
}

func (p *parser) stmt() int {
	next := p.look(0)
	switch next.Text {
	case "go":
		p.next()
		return p.put(api.Node{Kind: api.KGo, At: next.At}, p.expr())
	case "close":
		return p.wordStmt(api.KClose)
	case "panic":
		return p.wordStmt(api.KPanic)
	case "print":
		return p.wordStmt(api.KPrint)
	case "if":
		return p.ifStmt()
	case "for":
		p.next()
		condition := p.expr()
		return p.put(api.Node{Kind: api.KFor, At: next.At}, condition, p.block())
	case "return":
		return p.returnStmt()
	case "break":
		p.next()
		return p.put(api.Node{Kind: api.KBreak, At: next.At})
	case "select":
		return p.selectStmt()
	}
	return p.plainStmt()
}

// wordStmt reads a word and an expression in brackets.
func (p *parser) wordStmt(kind int) int {
	at := p.next().At
	p.open("(")
	value := p.expr()
	p.shut(")")
	return p.put(api.Node{Kind: kind, At: at}, value)
}

func (p *parser) ifStmt() int {
	at := p.want("if").At
	kids := []int{p.expr()}
	kids = append(kids, p.block())
	if p.is("else") {
		kids = append(kids, p.elsePart())
	}
	return p.put(api.Node{Kind: api.KIf, At: at}, kids...)
}

// elsePart reads "else" and what belongs to it. Ahead of an "if" the "else" opens something, ahead of a block the "{" does.
func (p *parser) elsePart() int {
	if p.look(1).Text != "if" {
		p.want("else")
		return p.block()
	}
	p.open("else")
	n := p.ifStmt()
	p.leave()
	return n
}

func (p *parser) returnStmt() int {
	at := p.want("return").At
	if p.is(";", "}") {
		return p.put(api.Node{Kind: api.KReturn, At: at})
	}
	return p.put(api.Node{Kind: api.KReturn, At: at}, p.expr())
}

// plainStmt reads a statement that begins with no word of its own.
func (p *parser) plainStmt() int {
	at := p.look(0).At
	if p.defines() {
		name := p.wantName()
		p.want(":=")
		return p.put(api.Node{Kind: api.KDefine, At: at, Text: name}, p.expr())
	}
	left := p.expr()
	kind := api.KDo
	switch {
	case p.is("="):
		kind = api.KAssign
	case p.is("<-"):
		kind = api.KSend
	default:
		return p.put(api.Node{Kind: kind, At: at}, left)
	}
	p.next()
	return p.put(api.Node{Kind: kind, At: at}, left, p.expr())
}

// defines tells whether a name and ":=" follow.
func (p *parser) defines() bool {
	return p.isKind(api.TokName) && p.look(1).Text == ":="
}

func (p *parser) selectStmt() int {
	at := p.want("select").At
	var cases []int
	p.open("{")
	for !p.is("}") {
		cases = append(cases, p.selectCase())
	}
	p.shut("}")
	return p.put(api.Node{Kind: api.KSelect, At: at}, cases...)
}

func (p *parser) selectCase() int {
	first := p.want("case", "default")
	switch {
	case first.Text == "default":
		return p.put(api.Node{Kind: api.KCaseElse, At: first.At}, p.caseBlock())
	case p.is("<-") || p.defines():
		return p.recvCase(first.At)
	}
	channel := p.expr()
	p.want("<-")
	value := p.expr()
	return p.put(api.Node{Kind: api.KCaseSend, At: first.At}, channel, value, p.caseBlock())
}

// recvCase reads what stands behind the "case" of one that receives. Its "<-" belongs to the case: what follows is any expression.
func (p *parser) recvCase(at int) int {
	name := ""
	if p.defines() {
		name = p.wantName()
		p.want(":=")
	}
	p.want("<-")
	channel := p.expr()
	return p.put(api.Node{Kind: api.KCaseRecv, At: at, Text: name}, channel, p.caseBlock())
}

func (p *parser) caseBlock() int {
	at := p.want(":").At
	kids := p.rows(p.stmt, "}", "case", "default")
	return p.put(api.Node{Kind: api.KBlock, At: at}, kids...)
}
