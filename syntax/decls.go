package syntax

import "ravel/api"

func (p *parser) program() {
	var decls []int
	at := 0
	if len(p.tokens) > 0 {
		at = p.tokens[0].At
	}
	for p.at < len(p.tokens) {
		decls = append(decls, p.decl())
		if p.at < len(p.tokens) {
			p.want(";")
		}
	}
	p.put(api.Node{Kind: api.KProgram, At: at}, decls...)
	// All else that can be wrong stands ahead of the text's end, or is named first.
	if len(p.nodes) > api.MaxNodes {
		panic(tooMany{p.end})
	}
}

func (p *parser) decl() int {
	if p.is("type") {
		return p.typeDecl()
	}
	return p.funcDecl()
}

func (p *parser) typeDecl() int {
	at := p.want("type").At
	name := p.wantName()
	kind, item := api.KStruct, p.field
	if p.want("struct", "interface").Text == "interface" {
		kind, item = api.KIface, p.methodSig
	}
	_, kids := p.braced(item)
	return p.put(api.Node{Kind: kind, At: at, Text: name}, kids...)
}

func (p *parser) field() int {
	return p.typed(api.KField)
}

func (p *parser) param() int {
	return p.typed(api.KParam)
}

// typed reads a name and its type.
func (p *parser) typed(kind int) int {
	name := p.wantKind(api.TokName)
	return p.put(api.Node{Kind: kind, At: name.At, Text: name.Text}, p.typ())
}

func (p *parser) methodSig() int {
	name := p.wantKind(api.TokName)
	return p.put(api.Node{Kind: api.KMethodSig, At: name.At, Text: name.Text}, p.sig())
}

func (p *parser) funcDecl() int {
	n := api.Node{Kind: api.KFunc, At: p.want("func").At}
	var kids []int
	if p.is("(") {
		n.Kind = api.KMethod
		kids = append(kids, p.receiver())
	}
	n.Text = p.wantName()
	kids = append(kids, p.sig())
	kids = append(kids, p.block())
	return p.put(n, kids...)
}

// receiver reads the "(" name "*" name ")" of a method.
func (p *parser) receiver() int {
	p.open("(")
	name := p.wantKind(api.TokName)
	typ := p.pointer()
	p.shut(")")
	return p.put(api.Node{Kind: api.KParam, At: name.At, Text: name.Text}, typ)
}

func (p *parser) sig() int {
	at := p.look(0).At
	kids := p.listed(p.param)
	return p.put(api.Node{Kind: api.KSig, At: at, Num: len(kids)}, p.withResult(kids)...)
}

// withResult adds the type that comes back to the kids, if one follows.
func (p *parser) withResult(kids []int) []int {
	if p.is("int", "bool", "chan", "func", "*") || p.isKind(api.TokName) {
		kids = append(kids, p.typ())
	}
	return kids
}

func (p *parser) typ() int {
	switch {
	case p.is("int"):
		return p.put(api.Node{Kind: api.KInt, At: p.next().At})
	case p.is("bool"):
		return p.put(api.Node{Kind: api.KBool, At: p.next().At})
	case p.is("*"):
		return p.pointer()
	case p.is("chan"):
		at, of := p.channel()
		return p.put(api.Node{Kind: api.KChan, At: at}, of)
	case p.is("func"):
		return p.funcType()
	}
	name := p.wantKind(api.TokName)
	return p.put(api.Node{Kind: api.KNamed, At: name.At, Text: name.Text})
}

// pointer reads "*" and a name.
func (p *parser) pointer() int {
	at := p.want("*").At
	return p.put(api.Node{Kind: api.KPtr, At: at, Text: p.wantName()})
}

// channel reads "chan" and a type, and answers where the word stands, and the type's node.
func (p *parser) channel() (at, of int) {
	at = p.open("chan").At
	of = p.typ()
	p.leave()
	return at, of
}

func (p *parser) funcType() int {
	at := p.open("func").At
	kids := p.listed(p.typ)
	num := len(kids)
	kids = p.withResult(kids)
	p.leave()
	return p.put(api.Node{Kind: api.KFuncType, At: at, Num: num}, kids...)
}
