package whole

import (
	"slices"
	"strconv"
	"strings"

	"ravel/api"
)

// stmt writes a statement.
func (m *maker) stmt() string {
	m.left--
	most := 15
	if m.left <= 0 {
		most = 8
	}
	switch m.Intn(most) {
	case 0, 1:
		return m.define()
	case 2:
		return m.assign()
	case 3:
		return "print(" + m.exact(pick(m, intType, boolType), 2) + ")"
	case 4:
		return m.call()
	case 5:
		if m.loops > 0 {
			return "break"
		}
		return "close(" + m.exact(channel(m.typ(1)), 1) + ")"
	case 6:
		return m.returnOf()
	case 7:
		of := m.typ(1)
		return m.exact(channel(of), 1) + " <- " + m.fitting(of, 1)
	case 8:
		return "go " + m.call()
	case 9:
		return "panic(" + m.exact(intType, 1) + ")"
	case 10, 11:
		return m.ifOf(2)
	case 12:
		cond := m.exact(boolType, 1)
		m.loops++
		defer func() { m.loops-- }()
		return "for " + cond + " " + m.blockOf()
	case 13:
		return "<-" + m.exact(channel(m.typ(1)), 1)
	}
	return m.selectOf()
}

func (m *maker) returnOf() string {
	if m.back == nil {
		return "return"
	}
	return "return " + m.fitting(m.back, 2)
}

// define writes a definition of a name that the block has not yet.
func (m *maker) define() string {
	t := m.typ(2)
	text := m.exact(t, 2)
	for _, name := range m.Perm(7) {
		x := member{[]string{"a", "b", "c", "x", "y", "f", "g"}[name], t}
		own := func(other member) bool { return other.name == x.name }
		if !slices.ContainsFunc(m.scope[m.block:], own) {
			m.scope = append(m.scope, x)
			return x.name + " := " + text
		}
	}
	return "print(1)"
}

// assign writes an assignment to a variable or a field.
func (m *maker) assign() string {
	var lefts []member
	for _, x := range m.inSight() {
		isFunc := func(f member) bool { return f.name == x.name && f.typ == x.typ }
		if !slices.ContainsFunc(m.funcs, isFunc) {
			lefts = append(lefts, x)
		}
		if x.typ.kind == api.KPtr {
			for _, field := range m.fields[x.typ.name] {
				lefts = append(lefts, member{x.name + "." + field.name, field.typ})
			}
		}
	}
	if len(lefts) == 0 {
		return m.define()
	}
	left := pick(m, lefts...)
	return left.name + " = " + m.fitting(left.typ, 2)
}

// call writes a call of a function, a method, or a literal.
func (m *maker) call() string {
	var calls []member
	for _, x := range m.inSight() {
		if x.typ.kind == api.KFuncType {
			calls = append(calls, x)
		}
		if x.typ.kind == api.KPtr || x.typ.kind == api.KNamed {
			for _, method := range m.methods[x.typ.name] {
				calls = append(calls, member{x.name + "." + method.name, method.typ})
			}
		}
	}
	if len(calls) == 0 || m.left > 0 && m.Intn(4) == 0 {
		t := m.funcType(1)
		return m.literal(t) + m.values(t)
	}
	f := pick(m, calls...)
	return f.name + m.values(f.typ)
}

func (m *maker) values(t *typ) string {
	var parts []string
	for _, part := range t.parts {
		parts = append(parts, m.fitting(part, 1))
	}
	return "(" + strings.Join(parts, ", ") + ")"
}

func (m *maker) literal(t *typ) string {
	sig, params := m.sig(t)
	if m.left <= 0 {
		return "func" + sig + " {}"
	}
	return "func" + sig + m.body(t.back, params)
}

func (m *maker) ifOf(more int) string {
	text := "if " + m.exact(boolType, 2) + " " + m.blockOf()
	switch {
	case more > 0 && m.Intn(3) == 0:
		text += " else " + m.ifOf(more-1)
	case m.Intn(2) == 0:
		text += " else " + m.blockOf()
	}
	return text
}

func (m *maker) selectOf() string {
	var cases []string
	hasElse := false
	for range m.Intn(4) {
		of := m.typ(1)
		head, names := "", []member{}
		switch m.Intn(4) {
		case 0:
			if hasElse {
				continue
			}
			hasElse = true
			head = "default:"
		case 1:
			head = "case <-" + m.exact(channel(of), 1) + ":"
		case 2:
			names = append(names, member{pick(m, "a", "b", "x"), of})
			head = "case " + names[0].name + " := <-" + m.exact(channel(of), 1) + ":"
		case 3:
			head = "case (" + m.exact(channel(of), 1) + ") <- " + m.fitting(of, 1) + ":"
		}
		scope := m.scope
		m.scope = append(slices.Clone(m.scope), names...)
		lines := m.stmts(false)
		m.scope = scope
		if len(lines) > 0 {
			head += strings.Join(lines, "; ") + ";"
		}
		cases = append(cases, head)
	}
	return "select {" + strings.Join(cases, " ") + "}"
}

// fitting writes a value that may stand where a type is asked.
func (m *maker) fitting(t *typ, deep int) string {
	if t.kind != api.KInt && t.kind != api.KBool && m.Intn(4) == 0 {
		return "nil"
	}
	if t.kind == api.KNamed && m.Intn(3) > 0 {
		var from []*typ
		for _, name := range m.structs {
			from = append(from, pointer(name))
		}
		for _, name := range m.ifaces {
			from = append(from, iface(name))
		}
		from = slices.DeleteFunc(from, func(x *typ) bool { return !m.fits(x.name, t.name) })
		return m.exact(pick(m, from...), deep)
	}
	return m.exact(t, deep)
}

// exact writes a value of just this type.
func (m *maker) exact(t *typ, deep int) string {
	m.left--
	if ways := m.reach(t, deep); len(ways) > 0 && m.Intn(4) > 0 {
		return pick(m, ways...)()
	}
	return m.fresh(t, deep)
}

// reach answers how a value of a type comes from what is in sight.
func (m *maker) reach(t *typ, deep int) []func() string {
	var ways []func() string
	add := func(is bool, way func() string) {
		if is {
			ways = append(ways, way)
		}
	}
	more := deep > 0 && m.left > 0
	for _, x := range m.inSight() {
		add(same(x.typ, t), func() string { return x.name })
		switch x.typ.kind {
		case api.KChan:
			add(same(x.typ.parts[0], t), func() string { return "(<-" + x.name + ")" })
		case api.KFuncType:
			add(more && same(x.typ.back, t), func() string { return x.name + m.values(x.typ) })
		case api.KPtr, api.KNamed:
			if x.typ.kind == api.KPtr {
				for _, field := range m.fields[x.typ.name] {
					add(same(field.typ, t), func() string { return x.name + "." + field.name })
				}
			}
			for _, method := range m.methods[x.typ.name] {
				add(same(method.typ, t), func() string { return x.name + "." + method.name })
				add(more && same(method.typ.back, t), func() string { return x.name + "." + method.name + m.values(method.typ) })
			}
		}
	}
	return ways
}

// fresh writes a value of a type that need not use any name.
func (m *maker) fresh(t *typ, deep int) string {
	switch t.kind {
	case api.KInt:
		return m.freshInt(deep)
	case api.KBool:
		return m.freshBool(deep)
	case api.KPtr:
		return m.freshPointer(t, deep)
	case api.KChan:
		return "make(" + t.String() + pick(m, "", ", 0", ", 1", ", 8") + ")"
	case api.KFuncType:
		return m.literal(t)
	}
	return pick(m, "(<-make(chan "+t.name+"))", "func() "+t.name+" {return nil}()")
}

func (m *maker) freshInt(deep int) string {
	if deep == 0 || m.left <= 0 {
		return strconv.Itoa(m.Intn(12))
	}
	switch m.Intn(4) {
	case 0:
		return "-" + m.exact(intType, deep-1)
	case 1:
		return "(" + m.exact(intType, deep-1) + " " + pick(m, "+", "-", "*", "/", "%") + " " + m.exact(intType, deep-1) + ")"
	}
	return strconv.Itoa(m.Intn(12))
}

func (m *maker) freshBool(deep int) string {
	if deep == 0 || m.left <= 0 {
		return pick(m, "true", "false")
	}
	switch m.Intn(5) {
	case 0:
		return "!" + m.exact(boolType, deep-1)
	case 1:
		return "(" + m.exact(intType, deep-1) + " " + pick(m, "<", "<=", ">", ">=") + " " + m.exact(intType, deep-1) + ")"
	case 2:
		return "(" + m.exact(boolType, deep-1) + " " + pick(m, "&&", "||") + " " + m.exact(boolType, deep-1) + ")"
	case 3:
		t := m.typ(1)
		right := m.fitting(t, deep-1)
		if t.kind == api.KFuncType {
			right = "nil"
		}
		return "(" + m.exact(t, deep-1) + " " + pick(m, "==", "!=") + " " + right + ")"
	}
	return pick(m, "true", "false")
}

func (m *maker) freshPointer(t *typ, deep int) string {
	if deep > 0 && m.left > 0 && m.Intn(3) == 0 {
		for _, name := range m.ifaces {
			if m.fits(t.name, name) {
				return m.exact(iface(name), deep-1) + ".(" + t.String() + ")"
			}
		}
	}
	return "new(" + t.name + ")"
}
