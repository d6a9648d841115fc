package syntax

import (
	"math/rand"
	"strconv"
	"strings"
	"testing"

	"ravel/api"
	"ravel/lex"
)

// maker writes programs by chance, and beside them the nodes that Parse has to answer.
type maker struct {
	strings.Builder
	*rand.Rand
	nodes []api.Node
	last  string
	left  int // how much more is to be written within one another
}

// token writes a token, perhaps with blanks ahead, and answers where it stands.
func (m *maker) token(text string) int {
	wordy := func(b byte) bool {
		return b == '_' || '0' <= b && b <= '9' || 'a' <= b && b <= 'z' || 'A' <= b && b <= 'Z'
	}
	glued := m.last != "" && (wordy(m.last[len(m.last)-1]) && wordy(text[0]) ||
		strings.Contains("< > = ! : & | /", m.last) && strings.Contains("- = / <- ==", text))
	// A line feed behind a token that can end a line would put a ";" there.
	canEnd := m.last == "" || m.last != "" && (wordy(m.last[len(m.last)-1]) || m.last == ")" || m.last == "}")
	switch {
	case m.Intn(6) == 0:
		m.WriteString("\t ")
	case !canEnd && m.Intn(6) == 0:
		m.WriteString(" // a note\n")
	case glued || m.Intn(6) == 0:
		m.WriteString(" ")
	}
	at := m.Len()
	m.WriteString(text)
	m.last = text
	return at
}

// end writes a ";", or a line feed that puts one.
func (m *maker) end() {
	canEnd := m.last == ")" || m.last == "}" || m.last != "" && (m.last[0] >= '0' && m.last[0] <= '9' || m.last[0] >= 'a' && m.last[0] <= 'z' || m.last[0] >= 'A' && m.last[0] <= 'Z')
	if canEnd && m.Intn(3) == 0 {
		m.WriteString(" // a note\n")
	} else {
		m.token(";")
	}
	m.last = ""
}

// maybeEnd writes what may be left out ahead of a "}".
func (m *maker) maybeEnd() {
	if m.Intn(2) == 0 {
		m.end()
	}
}

func (m *maker) put(kind, at, num int, text string, kids ...int) int {
	m.nodes = append(m.nodes, api.Node{Kind: kind, At: at, Num: num, Text: text, Kids: append([]int(nil), kids...)})
	return len(m.nodes) - 1
}

func (m *maker) name() string {
	return []string{"x", "y1", "_", "A", "Bee", "c_c"}[m.Intn(6)]
}

func (m *maker) named() (string, int) {
	name := m.name()
	return name, m.token(name)
}

// rows writes up to so many items, a ";" between each two.
func (m *maker) rows(most int, item func() int) []int {
	var kids []int
	for n := m.Intn(most + 1); n > 0; n-- {
		if len(kids) > 0 {
			m.end()
		}
		kids = append(kids, item())
	}
	if len(kids) > 0 {
		m.maybeEnd()
	}
	return kids
}

func (m *maker) commas(item func() int) []int {
	var kids []int
	m.token("(")
	for n := m.Intn(3); n > 0; n-- {
		if len(kids) > 0 {
			m.token(",")
		}
		kids = append(kids, item())
	}
	m.token(")")
	return kids
}

func (m *maker) program() {
	decls := m.rows(3, m.decl)
	at := 0
	if len(decls) > 0 {
		at = m.nodes[decls[0]].At
	}
	m.put(api.KProgram, at, 0, "", decls...)
}

func (m *maker) decl() int {
	switch m.Intn(4) {
	case 0:
		at := m.token("type")
		name, _ := m.named()
		m.token("struct")
		m.token("{")
		kids := m.rows(3, func() int { return m.typed(api.KField) })
		m.token("}")
		return m.put(api.KStruct, at, 0, name, kids...)
	case 1:
		at := m.token("type")
		name, _ := m.named()
		m.token("interface")
		m.token("{")
		kids := m.rows(3, func() int {
			name, at := m.named()
			return m.put(api.KMethodSig, at, 0, name, m.sig())
		})
		m.token("}")
		return m.put(api.KIface, at, 0, name, kids...)
	case 2:
		at := m.token("func")
		m.token("(")
		name, where := m.named()
		star := m.token("*")
		typ, _ := m.named()
		m.token(")")
		own := m.put(api.KParam, where, 0, name, m.put(api.KPtr, star, 0, typ))
		name, _ = m.named()
		sig := m.sig()
		return m.put(api.KMethod, at, 0, name, own, sig, m.block())
	}
	at := m.token("func")
	name, _ := m.named()
	sig := m.sig()
	return m.put(api.KFunc, at, 0, name, sig, m.block())
}

func (m *maker) typed(kind int) int {
	name, at := m.named()
	return m.put(kind, at, 0, name, m.typ())
}

func (m *maker) sig() int {
	at := m.Len()
	kids := m.commas(func() int { return m.typed(api.KParam) })
	at += strings.IndexByte(m.String()[at:], '(')
	num := len(kids)
	if m.Intn(2) == 0 {
		kids = append(kids, m.typ())
	}
	return m.put(api.KSig, at, num, "", kids...)
}

func (m *maker) typ() int {
	m.left--
	defer func() { m.left++ }()
	most := 6
	if m.left <= 0 {
		most = 4
	}
	switch m.Intn(most) {
	case 0:
		return m.put(api.KInt, m.token("int"), 0, "")
	case 1:
		return m.put(api.KBool, m.token("bool"), 0, "")
	case 2:
		name, at := m.named()
		return m.put(api.KNamed, at, 0, name)
	case 3:
		at := m.token("*")
		name, _ := m.named()
		return m.put(api.KPtr, at, 0, name)
	case 4:
		at := m.token("chan")
		return m.put(api.KChan, at, 0, "", m.typ())
	}
	at := m.token("func")
	kids := m.commas(m.typ)
	num := len(kids)
	if m.Intn(2) == 0 {
		kids = append(kids, m.typ())
	}
	return m.put(api.KFuncType, at, num, "", kids...)
}

func (m *maker) block() int {
	at := m.token("{")
	kids := m.rows(3, m.stmt)
	m.token("}")
	return m.put(api.KBlock, at, 0, "", kids...)
}

// next answers where the next token will stand, once it is written by f.
func (m *maker) next(f func() int) (at, n int) {
	from := m.Len()
	n = f()
	tokens, _ := lex.Scan(m.String()[from:])
	for _, t := range tokens {
		if t.Text != ";" {
			return from + t.At, n
		}
	}
	return from, n
}

func (m *maker) stmt() int {
	m.left--
	defer func() { m.left++ }()
	most := 12
	if m.left <= 0 {
		most = 9
	}
	switch m.Intn(most) {
	case 0:
		name, at := m.named()
		m.token(":=")
		return m.put(api.KDefine, at, 0, name, m.expr(0))
	case 1:
		at, left := m.next(func() int { return m.expr(0) })
		m.token("=")
		return m.put(api.KAssign, at, 0, "", left, m.expr(0))
	case 2:
		at, left := m.next(func() int { return m.expr(0) })
		m.token("<-")
		return m.put(api.KSend, at, 0, "", left, m.expr(0))
	case 3:
		at, n := m.next(func() int { return m.expr(0) })
		return m.put(api.KDo, at, 0, "", n)
	case 4:
		at := m.token("go")
		return m.put(api.KGo, at, 0, "", m.expr(0))
	case 5:
		which := m.Intn(3)
		at := m.token([]string{"close", "panic", "print"}[which])
		m.token("(")
		n := m.expr(0)
		m.token(")")
		return m.put([]int{api.KClose, api.KPanic, api.KPrint}[which], at, 0, "", n)
	case 6:
		return m.put(api.KReturn, m.token("return"), 0, "")
	case 7:
		at := m.token("return")
		return m.put(api.KReturn, at, 0, "", m.expr(0))
	case 8:
		return m.put(api.KBreak, m.token("break"), 0, "")
	case 9:
		return m.ifStmt()
	case 10:
		at := m.token("for")
		n := m.expr(0)
		return m.put(api.KFor, at, 0, "", n, m.block())
	}
	return m.selectStmt()
}

func (m *maker) ifStmt() int {
	m.left--
	defer func() { m.left++ }()
	at := m.token("if")
	kids := []int{m.expr(0)}
	kids = append(kids, m.block())
	switch m.Intn(3) {
	case 0:
		m.token("else")
		kids = append(kids, m.block())
	case 1:
		if m.left > 0 {
			m.token("else")
			kids = append(kids, m.ifStmt())
		}
	}
	return m.put(api.KIf, at, 0, "", kids...)
}

func (m *maker) selectStmt() int {
	at := m.token("select")
	m.token("{")
	var cases []int
	for n := m.Intn(4); n > 0; n-- {
		cases = append(cases, m.selectCase(n == 1))
	}
	m.token("}")
	return m.put(api.KSelect, at, 0, "", cases...)
}

func (m *maker) selectCase(last bool) int {
	body := func() int {
		at := m.token(":")
		var kids []int
		n := m.Intn(3)
		for i := range n {
			kids = append(kids, m.stmt())
			if last && i == n-1 {
				m.maybeEnd()
			} else {
				m.end()
			}
		}
		return m.put(api.KBlock, at, 0, "", kids...)
	}
	switch m.Intn(4) {
	case 0:
		at := m.token("default")
		return m.put(api.KCaseElse, at, 0, "", body())
	case 1:
		at := m.token("case")
		m.token("<-")
		n := m.expr(0)
		return m.put(api.KCaseRecv, at, 0, "", n, body())
	case 2:
		at := m.token("case")
		name, _ := m.named()
		m.token(":=")
		m.token("<-")
		n := m.expr(0)
		return m.put(api.KCaseRecv, at, 0, name, n, body())
	}
	at := m.token("case")
	// Brackets, so that it does not begin with "<-".
	m.token("(")
	channel := m.expr(0)
	m.token(")")
	m.token("<-")
	value := m.expr(0)
	return m.put(api.KCaseSend, at, 0, "", channel, value, body())
}

var levels = [][]string{{"||"}, {"&&"}, {"==", "!=", "<", "<=", ">", ">="}, {"+", "-"}, {"*", "/", "%"}}

// expr writes a row of operators of this level.
func (m *maker) expr(level int) int {
	m.left--
	defer func() { m.left++ }()
	if level == len(levels) {
		return m.one()
	}
	n := m.expr(level + 1)
	for m.left > 0 && m.Intn(5) == 0 {
		sign := levels[level][m.Intn(len(levels[level]))]
		at := m.token(sign)
		n = m.put(api.KBinary, at, 0, sign, n, m.expr(level+1))
	}
	return n
}

func (m *maker) one() int {
	if m.left > 0 && m.Intn(4) == 0 {
		which := m.Intn(3)
		at := m.token([]string{"!", "-", "<-"}[which])
		m.left--
		n := m.one()
		m.left++
		return m.put([]int{api.KNot, api.KNeg, api.KRecv}[which], at, 0, "", n)
	}
	n := m.first()
	for m.left > 0 && m.Intn(4) == 0 {
		switch m.Intn(3) {
		case 0:
			at := m.token(".")
			name, _ := m.named()
			n = m.put(api.KDot, at, 0, name, n)
		case 1:
			at := m.token(".")
			m.token("(")
			typ := m.typ()
			m.token(")")
			n = m.put(api.KAssert, at, 0, "", n, typ)
		case 2:
			from := m.Len()
			kids := append([]int{n}, m.commas(func() int { return m.expr(0) })...)
			n = m.put(api.KCall, from+strings.IndexByte(m.String()[from:], '('), 0, "", kids...)
		}
	}
	return n
}

func (m *maker) first() int {
	most := 9
	if m.left <= 0 {
		most = 7
	}
	switch m.Intn(most) {
	case 0:
		num := m.Intn(1000)
		return m.put(api.KNumber, m.token(strconv.Itoa(num)), num, "")
	case 1:
		return m.put(api.KTruth, m.token("true"), 1, "")
	case 2:
		return m.put(api.KTruth, m.token("false"), 0, "")
	case 3:
		return m.put(api.KNil, m.token("nil"), 0, "")
	case 4:
		name, at := m.named()
		return m.put(api.KName, at, 0, name)
	case 5:
		at := m.token("new")
		m.token("(")
		name, _ := m.named()
		m.token(")")
		return m.put(api.KNew, at, 0, name)
	case 6:
		return m.makeOf()
	case 7:
		m.token("(")
		n := m.expr(0)
		m.token(")")
		return n
	}
	at := m.token("func")
	sig := m.sig()
	return m.put(api.KLit, at, 0, "", sig, m.block())
}

func (m *maker) makeOf() int {
	at := m.token("make")
	m.token("(")
	m.token("chan")
	typ := m.typ()
	num := 0
	if m.Intn(2) == 0 {
		m.token(",")
		num = m.Intn(3)
		m.token(strconv.Itoa(num))
	}
	m.token(")")
	return m.put(api.KMake, at, num, "", typ)
}

func TestMadePrograms(t *testing.T) {
	r := rand.New(rand.NewSource(1))
	held := 0
	for i := range 800 {
		m := maker{Rand: r, left: 8 + i%24}
		m.program()
		text := m.String()
		if len(text) > api.MaxText || len(m.nodes) > api.MaxNodes {
			continue
		}
		nodes, fault := Parse(text)
		if fault.Code == api.ErrDeep {
			continue
		}
		if fault != (api.Fault{}) || !sameNodes(nodes, m.nodes) {
			t.Fatalf("%q: %v\n%s\nnot\n%s", text, fault, tell(nodes), tell(m.nodes))
		}
		held++
		holdPrint(t, text, nodes)
	}
	if held < 500 {
		t.Error("too few programs:", held)
	}
}

// holdPrint holds what Print says of a program against what has to be true of each.
func holdPrint(t *testing.T, text string, nodes []api.Node) {
	t.Helper()
	form, fault := Print(text)
	if fault != (api.Fault{}) {
		t.Fatalf("%q: %v", text, fault)
	}
	if len(form) > api.MaxText {
		return
	}
	again, fault := Parse(form)
	if fault != (api.Fault{}) || !sameNodes(bare(again), bare(nodes)) {
		t.Fatalf("%q is printed as\n%s\nwhich is another one: %v", text, form, fault)
	}
	if twice, _ := Print(form); twice != form {
		t.Fatalf("%q is printed as\n%s\nand that as\n%s", text, form, twice)
	}
	holdLines(t, form)
	holdBrackets(t, form, nodes)
}

// holdLines: tabs are as many as blocks are open (a select is none, its cases' statements are), and stand nowhere else.
func holdLines(t *testing.T, form string) {
	t.Helper()
	var open []string // what is open: "{", "select {", "case"
	lines := strings.Split(form, "\n")
	if lines[len(lines)-1] != "" {
		t.Fatalf("no line feed at the end of\n%s", form)
	}
	for i, line := range lines[:len(lines)-1] {
		rest := strings.TrimLeft(line, "\t")
		if line == "" {
			if i == 0 || len(open) > 0 || lines[i-1] != "}" || lines[i+1] == "" {
				t.Fatalf("line %d is empty in\n%s", i, form)
			}
			continue
		}
		inCase := len(open) > 0 && open[len(open)-1] == "case"
		starts := strings.HasPrefix(rest, "case ") || rest == "default:"
		if inCase && (starts || rest[0] == '}') {
			open = open[:len(open)-1]
		}
		if rest[0] == '}' {
			open = open[:len(open)-1]
		}
		want := 0
		for _, o := range open {
			if o != "select {" {
				want++
			}
		}
		if len(line)-len(rest) != want || strings.ContainsAny(rest, "\t\r") || strings.Contains(rest, "  ") || rest[len(rest)-1] == ' ' {
			t.Fatalf("line %d has not %d tabs, or blanks too many, in\n%s", i, want, form)
		}
		switch {
		case rest == "select {":
			open = append(open, rest)
		case rest[len(rest)-1] == '{':
			open = append(open, "{")
		}
		// Not just lines that begin with "case": a literal may stand in a case's head.
		if rest[len(rest)-1] == ':' {
			open = append(open, "case")
		}
	}
}

// holdBrackets: without any pair of its brackets the text is none, or another program.
func holdBrackets(t *testing.T, form string, nodes []api.Node) {
	t.Helper()
	var open []int
	for i := range len(form) {
		switch form[i] {
		case '(':
			open = append(open, i)
		case ')':
			from := open[len(open)-1]
			open = open[:len(open)-1]
			less := form[:from] + " " + form[from+1:i] + " " + form[i+1:]
			if other, fault := Parse(less); fault.Code == api.OK && sameNodes(bare(other), bare(nodes)) {
				t.Fatalf("the brackets at %d, %d need not stand in\n%s", from, i, form)
			}
		}
	}
}
