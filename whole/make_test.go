package whole

import (
	"math/rand"
	"slices"
	"strings"

	"ravel/api"
	"ravel/lex"
	"ravel/syntax"
)

// typ is a type of a made program.
type typ struct {
	kind  int
	name  string
	parts []*typ // of a channel what it is of; of a function what it takes
	back  *typ   // what comes back from a function, or nil
}

func (t *typ) String() string {
	switch t.kind {
	case api.KInt:
		return "int"
	case api.KBool:
		return "bool"
	case api.KPtr:
		return "*" + t.name
	case api.KChan:
		return "chan " + t.parts[0].String()
	case api.KFuncType:
		var parts []string
		for _, part := range t.parts {
			parts = append(parts, part.String())
		}
		return "func(" + strings.Join(parts, ", ") + ")" + t.tail()
	}
	return t.name
}

// tail tells what comes back from a function, a blank ahead.
func (t *typ) tail() string {
	if t.back == nil {
		return ""
	}
	return " " + t.back.String()
}

func same(a, b *typ) bool { return a != nil && b != nil && a.String() == b.String() }

var intType, boolType = &typ{kind: api.KInt}, &typ{kind: api.KBool}

func pointer(name string) *typ { return &typ{kind: api.KPtr, name: name} }
func iface(name string) *typ   { return &typ{kind: api.KNamed, name: name} }
func channel(of *typ) *typ     { return &typ{kind: api.KChan, parts: []*typ{of}} }

// member is what has a name and a type.
type member struct {
	name string
	typ  *typ
}

// maker writes programs that may be, by chance.
type maker struct {
	*rand.Rand
	structs, ifaces []string
	fields          map[string][]member // by the struct's name
	methods         map[string][]member // by the struct's, the interface's name
	funcs           []member
	scope           []member // variables, the nearest last
	block           int      // where in scope the block begins
	back            *typ     // what the function around gives back
	loops           int      // around, in the same function
	left            int      // how much more is to be written
}

func pick[T any](m *maker, list ...T) T { return list[m.Intn(len(list))] }

// typ answers a type, functions and channels of others up to so deep.
func (m *maker) typ(deep int) *typ {
	most := 8
	if deep == 0 {
		most = 6
	}
	switch m.Intn(most) {
	case 0, 1:
		return intType
	case 2:
		return boolType
	case 3, 4:
		return pointer(pick(m, m.structs...))
	case 5:
		return iface(pick(m, m.ifaces...))
	case 6:
		return channel(m.typ(deep - 1))
	}
	return m.funcType(deep - 1)
}

func (m *maker) funcType(deep int) *typ {
	t := &typ{kind: api.KFuncType}
	for range m.Intn(3) {
		t.parts = append(t.parts, m.typ(deep))
	}
	if m.Intn(3) > 0 {
		t.back = m.typ(deep)
	}
	return t
}

// fits tells whether a pointer or an interface has all methods of an interface.
func (m *maker) fits(from, to string) bool {
	has := func(method member) bool {
		return slices.ContainsFunc(m.methods[from], func(own member) bool { return own.name == method.name })
	}
	return !slices.ContainsFunc(m.methods[to], func(method member) bool { return !has(method) })
}

// inSight answers the variables and functions that can be used by their names.
func (m *maker) inSight() []member {
	var out []member
	for _, x := range slices.Concat(m.funcs, m.scope) {
		out = slices.DeleteFunc(out, func(other member) bool { return other.name == x.name })
		out = append(out, x)
	}
	return out
}

// program writes a whole program.
func (m *maker) program() string {
	m.structs, m.ifaces = []string{"A", "B", "C"}[:1+m.Intn(3)], []string{"I", "J", "K"}[:1+m.Intn(3)]
	m.fields, m.methods = map[string][]member{}, map[string][]member{}
	all := []member{{"m", m.funcType(1)}, {"n", m.funcType(1)}, {"o", &typ{kind: api.KFuncType, back: intType}}}
	for _, name := range slices.Concat(m.structs, m.ifaces) {
		for _, method := range all {
			if m.Intn(3) > 0 {
				m.methods[name] = append(m.methods[name], method)
			}
		}
	}
	for _, name := range m.structs {
		for _, field := range []string{"a", "b", "x"}[:m.Intn(4)] {
			m.fields[name] = append(m.fields[name], member{field, m.typ(2)})
		}
	}
	for _, name := range []string{"f", "g", "h"}[:m.Intn(4)] {
		m.funcs = append(m.funcs, member{name, m.funcType(2)})
	}
	m.funcs = append(m.funcs, member{"main", &typ{kind: api.KFuncType}})
	return m.decls()
}

// decls writes the decls, in an order by chance.
func (m *maker) decls() string {
	var decls []string
	for _, name := range m.ifaces {
		var lines []string
		for _, method := range m.methods[name] {
			sig, _ := m.sig(method.typ)
			lines = append(lines, method.name+sig)
		}
		decls = append(decls, "type "+name+" interface {"+strings.Join(lines, "; ")+"}")
	}
	for _, name := range m.structs {
		var lines []string
		for _, field := range m.fields[name] {
			lines = append(lines, field.name+" "+field.typ.String())
		}
		decls = append(decls, "type "+name+" struct {"+strings.Join(lines, "; ")+"}")
		for _, method := range m.methods[name] {
			own := pick(m, "s", "t")
			sig, params := m.sig(method.typ)
			params = append(params, member{own, pointer(name)})
			decls = append(decls, "func ("+own+" *"+name+") "+method.name+sig+m.body(method.typ.back, params))
		}
	}
	for _, f := range m.funcs {
		sig, params := m.sig(f.typ)
		decls = append(decls, "func "+f.name+sig+m.body(f.typ.back, params))
	}
	m.Shuffle(len(decls), func(i, k int) { decls[i], decls[k] = decls[k], decls[i] })
	return strings.Join(decls, "\n") + "\n"
}

// sig writes the sig of a function's type, and answers its params.
func (m *maker) sig(t *typ) (string, []member) {
	names := []string{"a", "b", "c", "x", "f"}
	m.Shuffle(len(names), func(i, k int) { names[i], names[k] = names[k], names[i] })
	var params []member
	var parts []string
	for i, part := range t.parts {
		params = append(params, member{names[i], part})
		parts = append(parts, names[i]+" "+part.String())
	}
	return "(" + strings.Join(parts, ", ") + ")" + t.tail(), params
}

// body writes the block of a function or a literal.
func (m *maker) body(back *typ, params []member) string {
	outer, loops, scope := m.back, m.loops, m.scope
	m.back, m.loops = back, 0
	m.scope = append(slices.Clone(m.scope), params...)
	text := " {" + strings.Join(m.stmts(m.Intn(4) > 0), "; ") + "}"
	m.back, m.loops, m.scope = outer, loops, scope
	return text
}

func (m *maker) blockOf() string {
	return "{" + strings.Join(m.stmts(false), "; ") + "}"
}

// stmts writes the statements of a block, perhaps with a return at the end; what is known ahead of it stays as it is.
func (m *maker) stmts(returns bool) []string {
	scope, block := m.scope, m.block
	m.scope, m.block = slices.Clone(m.scope), len(m.scope)
	var lines []string
	for range m.Intn(5) {
		lines = append(lines, m.stmt())
	}
	if returns {
		lines = append(lines, m.returnOf())
	}
	m.scope, m.block = scope, block
	return lines
}

// made answers a program that may be, in the one form.
func made(r *rand.Rand) string {
	for {
		m := maker{Rand: r, left: 20 + r.Intn(150)}
		// Programs that are too long, too deep or too great are made now and then.
		if form, fault := syntax.Print(m.program()); fault.Code == api.OK {
			if _, fault := syntax.Parse(form); fault.Code == api.OK {
				return form
			}
		} else if fault.Code == api.ErrSyntax || fault.Code == api.ErrRune {
			panic("a program that is none was made")
		}
	}
}

// spoilt answers a program in which something may be wrong: tokens, lines or decls are others, or stand elsewhere.
func spoilt(r *rand.Rand, text string) string {
	for {
		other := text
		for range 1 + r.Intn(3) {
			switch r.Intn(6) {
			case 0:
				other = otherDecl(r, other)
			case 1, 2:
				other = otherLine(r, other)
			default:
				other = otherToken(r, other)
			}
		}
		if _, fault := syntax.Parse(other); fault.Code == api.OK {
			return other
		}
	}
}

// otherDecl lets two decls change places; types perhaps get one name, so that members of both are used ahead of the second one.
func otherDecl(r *rand.Rand, text string) string {
	decls := strings.Split(text, "\n\n")
	from, to := r.Intn(len(decls)), r.Intn(len(decls))
	words, others := strings.SplitN(decls[from], " ", 3), strings.SplitN(decls[to], " ", 3)
	if words[0] == "type" && others[0] == "type" {
		words[1] = others[1]
		decls[from] = strings.Join(words, " ")
	}
	decls[from], decls[to] = decls[to], decls[from]
	return strings.Join(decls, "\n\n")
}

// otherLine leaves a line out, writes one twice, or puts one elsewhere.
func otherLine(r *rand.Rand, text string) string {
	lines := strings.SplitAfter(text, "\n")
	from, to := r.Intn(len(lines)), r.Intn(len(lines))
	line := lines[from]
	switch r.Intn(3) {
	case 0:
		lines = slices.Delete(lines, from, from+1)
	case 1:
		lines = slices.Insert(lines, to, line)
	case 2:
		lines = slices.Delete(lines, from, from+1)
		lines = slices.Insert(lines, min(to, len(lines)), line)
	}
	return strings.Join(lines, "")
}

// otherToken puts something else where a token stands.
func otherToken(r *rand.Rand, text string) string {
	tokens, _ := lex.Scan(text)
	if len(tokens) == 0 {
		return text
	}
	old := tokens[r.Intn(len(tokens))]
	another := tokens[r.Intn(len(tokens))]
	news := []string{another.Text}
	switch {
	case old.Kind == api.TokName:
		news = append(news, "a", "b", "x", "f", "A", "I", "main", "nil", "1", "true", "int", "*A")
	case old.Kind == api.TokNumber:
		news = []string{"true", "nil", "a", "9", "main"}
	case old.Text == "int" || old.Text == "bool":
		news = []string{"int", "bool", "I", "*A", "chan int", "func()", "Z"}
	case old.Kind == api.TokSign:
		news = append(news, "+", "==", "<", "&&", "-", "!", "<-", ".a", "=", ":=")
	case old.Text == "true" || old.Text == "nil":
		news = []string{"1", "nil", "true", "x"}
	}
	if old.At == len(text) || text[old.At] == '\n' {
		return text
	}
	return text[:old.At] + news[r.Intn(len(news))] + text[old.At+len(old.Text):]
}
