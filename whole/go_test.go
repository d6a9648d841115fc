package whole

import (
	"go/ast"
	"go/parser"
	"go/token"
	gotypes "go/types"
	"strings"

	"ravel/api"
)

// span is a piece of a text.
type span struct{ from, to int }

// goWriter writes a program as one of Go that may be just if the program may: numbers and truth values are no constants, names of different kinds never meet, blocks of functions and cases are blocks within others.
type goWriter struct {
	strings.Builder
	nodes  []api.Node
	spans  map[span]int // expressions, by where they stand
	givers map[int]int  // nodes that give names, by where the name stands
}

func (w *goWriter) put(parts ...string) {
	for _, part := range parts {
		w.WriteString(part)
	}
}

// give writes a name that a node gives.
func (w *goWriter) give(number int) {
	w.givers[w.Len()] = number
	w.put("v_", w.nodes[number].Text)
}

func (w *goWriter) program() {
	w.put("package p\nfunc num() int {return 1}\nfunc yes() bool {return true}\nfunc print[T int | bool](x T) {}\nfunc panic(x int) {}\nvar _ func() = v_main\n")
	for _, kid := range w.nodes[len(w.nodes)-1].Kids {
		w.decl(kid)
	}
}

func (w *goWriter) decl(number int) {
	n := w.nodes[number]
	if n.Kind != api.KMethod {
		// Functions and types have their names together.
		w.put("type d_", n.Text, " int\n")
	}
	switch n.Kind {
	case api.KStruct:
		w.put("type S_", n.Text, " struct {\n")
		for _, kid := range n.Kids {
			w.put("m_", w.nodes[kid].Text, " ")
			w.typ(w.nodes[kid].Kids[0])
			w.put("\n")
		}
		w.put("}\nfunc (*S_", n.Text, ") hidden() {}\n")
	case api.KIface:
		w.put("type I_", n.Text, " interface {\nhidden()\n")
		for _, kid := range n.Kids {
			w.put("m_", w.nodes[kid].Text)
			w.sig(w.nodes[kid].Kids[0])
			w.put("\n")
		}
		w.put("}\n")
	case api.KFunc:
		w.put("func ")
		w.give(number)
		w.sig(n.Kids[0])
		w.body(n.Kids[1])
	case api.KMethod:
		w.put("func (")
		w.give(n.Kids[0])
		w.put(" ")
		w.typ(w.nodes[n.Kids[0]].Kids[0])
		w.put(") m_", n.Text)
		w.sig(n.Kids[1])
		w.body(n.Kids[2])
	}
}

func (w *goWriter) typ(number int) {
	n := w.nodes[number]
	switch n.Kind {
	case api.KInt:
		w.put("int")
	case api.KBool:
		w.put("bool")
	case api.KNamed:
		w.put("I_", n.Text)
	case api.KPtr:
		w.put("*S_", n.Text)
	case api.KChan:
		w.put("chan ")
		w.typ(n.Kids[0])
	case api.KFuncType:
		w.put("func(")
		for _, kid := range n.Kids[:n.Num] {
			w.typ(kid)
			w.put(", ")
		}
		w.put(") ")
		for _, kid := range n.Kids[n.Num:] {
			w.typ(kid)
		}
	}
}

func (w *goWriter) sig(number int) {
	n := w.nodes[number]
	w.put("(")
	for _, kid := range n.Kids[:n.Num] {
		w.give(kid)
		w.put(" ")
		w.typ(w.nodes[kid].Kids[0])
		w.put(", ")
	}
	w.put(") ")
	for _, kid := range n.Kids[n.Num:] {
		w.typ(kid)
	}
}

func (w *goWriter) body(block int) {
	w.put(" {")
	w.block(block)
	w.put("}\n")
}

func (w *goWriter) block(number int) {
	w.put("{\n")
	for _, kid := range w.nodes[number].Kids {
		w.stmt(kid)
		w.put("\n")
	}
	w.put("}")
}

func (w *goWriter) stmt(number int) {
	n := w.nodes[number]
	switch n.Kind {
	case api.KDefine:
		w.give(number)
		w.put(" := ")
		w.expr(n.Kids[0])
	case api.KAssign, api.KSend:
		w.expr(n.Kids[0])
		w.put(map[int]string{api.KAssign: " = ", api.KSend: " <- "}[n.Kind])
		w.expr(n.Kids[1])
	case api.KDo:
		w.expr(n.Kids[0])
	case api.KGo:
		w.put("go ")
		w.expr(n.Kids[0])
	case api.KClose, api.KPanic, api.KPrint:
		w.put(map[int]string{api.KClose: "close", api.KPanic: "panic", api.KPrint: "print"}[n.Kind])
		w.inBrackets(n.Kids[0])
	case api.KIf, api.KFor:
		w.put(map[int]string{api.KIf: "if ", api.KFor: "for "}[n.Kind])
		w.inBrackets(n.Kids[0])
		w.block(n.Kids[1])
		for _, kid := range n.Kids[2:] {
			w.put(" else ")
			w.stmt(kid)
		}
	case api.KBlock:
		w.block(number)
	case api.KReturn:
		w.put("return ")
		for _, kid := range n.Kids {
			w.expr(kid)
		}
	case api.KBreak:
		// Go's break leaves a select, too.
		w.put("continue")
	case api.KSelect:
		w.put("select {\n")
		for _, kid := range n.Kids {
			w.caseOf(kid)
		}
		w.put("}")
	}
}

func (w *goWriter) caseOf(number int) {
	n := w.nodes[number]
	switch n.Kind {
	case api.KCaseRecv:
		w.put("case ")
		if n.Text != "" {
			w.give(number)
			w.put(" := ")
		}
		w.put("<-")
		w.inBrackets(n.Kids[0])
	case api.KCaseSend:
		w.put("case ")
		w.inBrackets(n.Kids[0])
		w.put(" <- ")
		w.expr(n.Kids[1])
	case api.KCaseElse:
		w.put("default")
	}
	w.put(":\n")
	w.block(n.Kids[len(n.Kids)-1])
	w.put("\n")
}

func (w *goWriter) inBrackets(number int) {
	w.put("(")
	w.expr(number)
	w.put(")")
}

// expr writes an expression, all parts of it in brackets.
func (w *goWriter) expr(number int) {
	n := w.nodes[number]
	from := w.Len()
	switch n.Kind {
	case api.KNumber:
		w.put("+num()")
	case api.KTruth:
		w.put("!yes()")
	case api.KNil:
		w.put("nil")
	case api.KName:
		w.put("v_", n.Text)
	case api.KDot:
		w.inBrackets(n.Kids[0])
		w.put(".m_", n.Text)
	case api.KCall:
		w.inBrackets(n.Kids[0])
		w.put("(")
		for _, kid := range n.Kids[1:] {
			w.expr(kid)
			w.put(", ")
		}
		w.put(")")
	case api.KAssert:
		w.inBrackets(n.Kids[0])
		w.put(".(")
		if w.nodes[n.Kids[1]].Kind == api.KPtr {
			w.typ(n.Kids[1])
		} else {
			// Go lets interfaces stand there; a number has never what an interface asks for.
			w.put("int")
		}
		w.put(")")
	case api.KLit:
		w.put("func")
		w.sig(n.Kids[0])
		w.put("{")
		w.block(n.Kids[1])
		w.put("}")
	default:
		w.sign(number)
	}
	w.spans[span{from, w.Len()}] = number
}

func (w *goWriter) sign(number int) {
	n := w.nodes[number]
	switch n.Kind {
	case api.KNew:
		w.put("new(S_", n.Text, ")")
	case api.KMake:
		w.put("make(chan ")
		w.typ(n.Kids[0])
		if n.Num > api.MaxRoom {
			w.put(", too_many")
		}
		w.put(")")
	case api.KNot, api.KNeg, api.KRecv:
		w.put(map[int]string{api.KNot: "!", api.KNeg: "-", api.KRecv: "<-"}[n.Kind])
		w.inBrackets(n.Kids[0])
	case api.KBinary:
		w.inBrackets(n.Kids[0])
		w.put(" ", n.Text, " ")
		w.inBrackets(n.Kids[1])
	}
}

// goAnswer is what Go says of a program: what is wrong, the types of its expressions, what its names are of.
type goAnswer struct {
	wrong []string
	types map[int]string
	uses  map[int]int
}

// askGo asks Go's own type checker about a program.
func askGo(nodes []api.Node) goAnswer {
	w := goWriter{nodes: nodes, spans: map[span]int{}, givers: map[int]int{}}
	w.program()
	set := token.NewFileSet()
	file, err := parser.ParseFile(set, "p.go", w.String(), 0)
	if err != nil {
		return goAnswer{wrong: []string{err.Error()}}
	}
	answer := goAnswer{types: map[int]string{}, uses: map[int]int{}}
	config := gotypes.Config{Error: func(err error) {
		// Both may be here.
		if what := err.Error(); !strings.Contains(what, "declared and not used") && !strings.Contains(what, "missing return") {
			answer.wrong = append(answer.wrong, what)
		}
	}}
	info := gotypes.Info{Types: map[ast.Expr]gotypes.TypeAndValue{}, Uses: map[*ast.Ident]gotypes.Object{}}
	config.Check("p", set, []*ast.File{file}, &info)
	place := func(pos token.Pos) int { return set.Position(pos).Offset }
	for expr, value := range info.Types {
		if number, is := w.spans[span{place(expr.Pos()), place(expr.End())}]; is {
			answer.types[number] = goText(value.Type)
		}
	}
	for name, object := range info.Uses {
		number, isName := w.spans[span{place(name.Pos()), place(name.End())}]
		giver, is := w.givers[place(object.Pos())]
		if isName && is {
			answer.uses[number] = giver
		}
	}
	return answer
}

// goText tells a type of Go by the text of the program's type.
func goText(t gotypes.Type) string {
	switch x := t.(type) {
	case *gotypes.Pointer:
		return "*" + goText(x.Elem())
	case *gotypes.Chan:
		return "chan " + goText(x.Elem())
	case *gotypes.Named:
		return x.Obj().Name()[2:]
	case *gotypes.Tuple:
		return ""
	case *gotypes.Signature:
		var parts []string
		for v := range x.Params().Variables() {
			parts = append(parts, goText(v.Type()))
		}
		text := "func(" + strings.Join(parts, ",") + ")"
		for v := range x.Results().Variables() {
			text += " " + goText(v.Type())
		}
		return text
	case *gotypes.Basic:
		return strings.TrimPrefix(x.Name(), "untyped ")
	}
	return "?"
}
