package types

import (
	"go/ast"
	"go/parser"
	"go/token"
	gotypes "go/types"
	"math/rand"
	"slices"
	"strconv"
	"strings"
	"testing"

	"ravel/api"
)

// maker writes programs by chance that Go takes, too, and beside them what Texts has to answer.
type maker struct {
	*rand.Rand
	text    strings.Builder
	want    []string // of each node its text
	structs []string
	ifaces  []string
}

// write writes tokens, some blanks, tabs or notes behind each.
func (m *maker) write(tokens ...string) {
	gaps := []string{" ", "\t", "  ", " \t "}
	for _, token := range tokens {
		m.text.WriteString(token)
		if token == "(" || token == "," || token == "{" || token == "chan" {
			gaps = append(gaps, " // a note, func(int)\n", "\n\n")
		}
		m.text.WriteString(gaps[m.Intn(len(gaps))])
		gaps = gaps[:4]
	}
}

// put adds a node's text, and answers it.
func (m *maker) put(text string) string {
	m.want = append(m.want, text)
	return text
}

// typ writes a type, and answers its text.
func (m *maker) typ(deep int) string {
	most := 6
	if deep == 0 {
		most = 4
	}
	switch m.Intn(most) {
	case 0:
		m.write("int")
		return m.put("int")
	case 1:
		m.write("bool")
		return m.put("bool")
	case 2:
		name := m.ifaces[m.Intn(len(m.ifaces))]
		m.write(name)
		return m.put(name)
	case 3:
		name := m.structs[m.Intn(len(m.structs))]
		m.write("*", name)
		return m.put("*" + name)
	case 4:
		m.write("chan")
		return m.put("chan " + m.typ(deep-1))
	}
	m.write("func")
	return m.form(func(int) string { return m.typ(deep - 1) })
}

// form writes the "(" .. ")" of a function, and perhaps what comes back.
func (m *maker) form(item func(i int) string) string {
	var parts []string
	m.write("(")
	for i := range m.Intn(3) {
		if i > 0 {
			m.write(",")
		}
		parts = append(parts, item(i))
	}
	m.write(")")
	text := "func(" + strings.Join(parts, ",") + ")"
	if m.Intn(2) == 0 {
		text += " " + m.typ(1)
	}
	return m.put(text)
}

// sig writes a sig; most of them are of few kinds, so that methods meet.
func (m *maker) sig() {
	if m.Intn(5) > 0 {
		m.write("(", ")")
		m.put("func()")
		return
	}
	m.form(func(i int) string {
		m.write("p" + strconv.Itoa(i))
		text := m.typ(2)
		m.put("")
		return text
	})
}

// some answers some of these names, in an order by chance.
func (m *maker) some(names ...string) []string {
	m.Shuffle(len(names), func(i, k int) { names[i], names[k] = names[k], names[i] })
	return names[:m.Intn(len(names)+1)]
}

func (m *maker) structDecl(name string) {
	m.write("type", name, "struct", "{")
	for i := range m.Intn(3) {
		m.write("f" + strconv.Itoa(i))
		m.typ(3)
		m.put("")
		m.write(";")
	}
	m.write("}", ";")
	m.put("")
	for _, method := range m.some("m", "n", "o", "p") {
		m.write("func", "(", "s", "*", name, ")", method)
		m.put("*" + name)
		m.put("")
		m.sig()
		m.body()
		m.put("")
	}
}

func (m *maker) ifaceDecl(name string) {
	m.write("type", name, "interface", "{")
	for _, method := range m.some("m", "n", "o") {
		m.write(method)
		m.sig()
		m.put("")
		m.write(";")
	}
	m.write("}", ";")
	m.put("")
}

// body writes a block with types in it.
func (m *maker) body() {
	m.write("{")
	switch m.Intn(4) {
	case 0:
		m.write("x", ":=", "make", "(", "chan")
		m.typ(2)
		m.write(")", ";")
		m.put("") // the make
		m.put("")
	case 1:
		m.write("go", "func")
		m.sig()
		m.write("{", "}", "(", ")", ";")
		m.put("") // the block
		m.put("") // the literal
		m.put("") // the call
		m.put("")
	case 2:
		m.write("y", "=", "x", ".", "(")
		m.put("")
		m.put("")
		m.typ(2)
		m.write(")", ";")
		m.put("") // the assertion
		m.put("")
	}
	m.write("}", ";")
	m.put("")
}

func newMaker(r *rand.Rand) *maker {
	m := &maker{Rand: r, structs: []string{"A", "B", "C"}, ifaces: []string{"I", "J", "K", "L"}}
	for _, name := range m.structs {
		m.structDecl(name)
	}
	for _, name := range m.ifaces {
		m.ifaceDecl(name)
	}
	m.put("")
	return m
}

// goText tells a type of Go by the chapter's text.
func goText(typ gotypes.Type) string {
	switch x := typ.(type) {
	case *gotypes.Pointer:
		return "*" + goText(x.Elem())
	case *gotypes.Chan:
		return "chan " + goText(x.Elem())
	case *gotypes.Named:
		return x.Obj().Name()
	case *gotypes.Signature:
		var parts []string
		for v := range x.Params().Variables() {
			parts = append(parts, goText(v.Type()))
		}
		text := "func(" + strings.Join(parts, ",") + ")"
		for v := range x.Results().Variables() {
			text += " " + goText(v.Type())
		}
		return text
	case *gotypes.Basic:
		if x.Kind() == gotypes.UntypedNil {
			return "nil"
		}
		return x.Name()
	}
	return "?"
}

// goMethods tells the methods of a type of Go as Methods does.
func goMethods(typ gotypes.Type) []string {
	var out []string
	for method := range gotypes.NewMethodSet(typ).Methods() {
		out = append(out, method.Obj().Name()+" "+goText(method.Obj().Type()))
	}
	slices.Sort(out)
	return out
}

// goFits asks Go. Just what has methods fits an interface here: Go lets all fit an empty one.
func goFits(from, to gotypes.Type) bool {
	isNil := gotypes.Identical(from, gotypes.Typ[gotypes.UntypedNil])
	if gotypes.IsInterface(to) && !gotypes.IsInterface(from) && !isNil {
		pointer, is := from.(*gotypes.Pointer)
		if !is || gotypes.IsInterface(pointer.Elem()) {
			return false
		}
	}
	return gotypes.AssignableTo(from, to)
}

// goTypes answers the types that are named in a program, once each.
func goTypes(t *testing.T, text string) []gotypes.Type {
	t.Helper()
	set := token.NewFileSet()
	file, err := parser.ParseFile(set, "p.go", "package p\n"+text, 0)
	if err != nil {
		t.Fatalf("%q: %v", text, err)
	}
	info := gotypes.Info{Types: map[ast.Expr]gotypes.TypeAndValue{}}
	// What stands in blocks need not be right.
	config := gotypes.Config{IgnoreFuncBodies: true}
	pack, err := config.Check("p", set, []*ast.File{file}, &info)
	if err != nil {
		t.Fatalf("%q: %v", text, err)
	}
	out := []gotypes.Type{gotypes.Typ[gotypes.UntypedNil], gotypes.Typ[gotypes.Int], gotypes.Typ[gotypes.Bool]}
	for _, name := range pack.Scope().Names() {
		typ := pack.Scope().Lookup(name).Type()
		out = append(out, gotypes.NewPointer(typ))
		if gotypes.IsInterface(typ) {
			out = append(out, typ, gotypes.NewChan(gotypes.SendRecv, typ))
		}
	}
	for _, value := range info.Types {
		_, isStruct := value.Type.Underlying().(*gotypes.Struct)
		_, isLiteral := value.Type.(*gotypes.Interface)
		if !isStruct && !isLiteral {
			out = append(out, value.Type)
		}
	}
	slices.SortFunc(out, func(a, b gotypes.Type) int { return strings.Compare(goText(a), goText(b)) })
	return slices.CompactFunc(out, gotypes.Identical)
}

// TestMadePrograms holds programs made by chance against what was written, and against what Go says of their types.
func TestMadePrograms(t *testing.T) {
	r := rand.New(rand.NewSource(1))
	fit, not := 0, 0
	for range 60 {
		m := newMaker(r)
		text := m.text.String()
		list, fault := Texts(text)
		if fault != (api.Fault{}) || !slices.Equal(list, m.want) {
			t.Fatalf("%q: got %q, %v, want %q", text, list, fault, m.want)
		}
		all := goTypes(t, text)
		for _, from := range all {
			wantMethods(t, text, goText(from), goMethods(from)...)
			for _, to := range all {
				want := goFits(from, to)
				wantFits(t, text, goText(from), goText(to), want)
				if want && gotypes.IsInterface(to) && !gotypes.Identical(from, to) {
					fit++
				} else if gotypes.IsInterface(to) {
					not++
				}
			}
		}
		if t.Failed() {
			return
		}
	}
	if fit < 200 || not < 200 {
		t.Error("too few that fit, or that don't:", fit, not)
	}
}
