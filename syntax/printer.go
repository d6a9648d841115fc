package syntax

import (
	"strconv"
	"strings"

	"ravel/api"
)

// printer writes the nodes of a program in the one form.
type printer struct {
	strings.Builder
	nodes []api.Node
	tabs  int
}

// put writes any number of texts.
func (p *printer) put(texts ...string) {
	for _, t := range texts {
		p.WriteString(t)
	}
}

func (p *printer) indent() {
	for range p.tabs {
		p.WriteByte('\t')
	}
}

func (p *printer) program(n int) {
	for i, decl := range p.nodes[n].Kids {
		if i > 0 {
			p.put("\n")
		}
		p.decl(p.nodes[decl])
		p.put("\n")
	}
}

func (p *printer) decl(n api.Node) {
	switch n.Kind {
	case api.KStruct:
		p.put("type ", n.Text, " struct ")
		p.braces(n.Kids, p.field)
	case api.KIface:
		p.put("type ", n.Text, " interface ")
		p.braces(n.Kids, p.methodSig)
	case api.KFunc:
		p.put("func ", n.Text)
		p.function(n.Kids)
	case api.KMethod:
		p.put("func (")
		p.field(n.Kids[0])
		p.put(") ", n.Text)
		p.function(n.Kids[1:])
	}
}

// function writes a KSig and a KBlock.
func (p *printer) function(kids []int) {
	p.sig(kids[0])
	p.put(" ")
	p.block(kids[1])
}

// braces writes rows between "{" and "}", each on a line of its own.
func (p *printer) braces(rows []int, row func(int)) {
	p.put("{\n")
	p.rows(rows, row)
	p.indent()
	p.put("}")
}

// rows writes each row on a line of its own, one more tab ahead.
func (p *printer) rows(rows []int, row func(int)) {
	p.tabs++
	for _, r := range rows {
		p.indent()
		row(r)
		p.put("\n")
	}
	p.tabs--
}

// commas writes items with a comma between each two, in brackets.
func (p *printer) commas(items []int, item func(int)) {
	p.put("(")
	for i, n := range items {
		if i > 0 {
			p.put(", ")
		}
		item(n)
	}
	p.put(")")
}

// field writes a name and its type: of a param, too.
func (p *printer) field(n int) {
	p.put(p.nodes[n].Text, " ")
	p.typ(p.nodes[n].Kids[0])
}

func (p *printer) methodSig(n int) {
	p.put(p.nodes[n].Text)
	p.sig(p.nodes[n].Kids[0])
}

func (p *printer) sig(n int) {
	p.takesAndGives(p.nodes[n], p.field)
}

// takesAndGives writes what a KSig, or a KFuncType, is handed, and what comes back.
func (p *printer) takesAndGives(n api.Node, item func(int)) {
	p.commas(n.Kids[:n.Num], item)
	for _, typ := range n.Kids[n.Num:] {
		p.put(" ")
		p.typ(typ)
	}
}

func (p *printer) typ(number int) {
	n := p.nodes[number]
	switch n.Kind {
	case api.KInt:
		p.put("int")
	case api.KBool:
		p.put("bool")
	case api.KNamed:
		p.put(n.Text)
	case api.KPtr:
		p.put("*", n.Text)
	case api.KChan:
		p.put("chan ")
		p.typ(n.Kids[0])
	case api.KFuncType:
		p.put("func")
		p.takesAndGives(n, p.typ)
	}
}

func (p *printer) block(n int) {
	p.braces(p.nodes[n].Kids, p.stmt)
}

func (p *printer) number(num int) {
	p.put(strconv.Itoa(num))
}
