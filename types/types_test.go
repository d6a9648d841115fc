package types

import (
	"slices"
	"strings"
	"testing"

	"ravel/api"
	"ravel/syntax"
)

// textsOf answers the types of a text that has to be a program, the empty ones left out.
func textsOf(t *testing.T, text string) []string {
	t.Helper()
	list, fault := Texts(text)
	if fault != (api.Fault{}) {
		t.Fatalf("%q: fault %v", text, fault)
	}
	return slices.DeleteFunc(list, func(x string) bool { return x == "" })
}

func wantMethods(t *testing.T, text, typ string, want ...string) {
	t.Helper()
	got, fault := Methods(text, typ)
	if fault != (api.Fault{}) || !slices.Equal(got, want) {
		t.Errorf("%q, %q: got %q, %v, want %q", text, typ, got, fault, want)
	}
}

func wantFits(t *testing.T, text, from, to string, want bool) {
	t.Helper()
	got, fault := Fits(text, from, to)
	if fault != (api.Fault{}) || got != want {
		t.Errorf("%q: %q to %q: got %v, %v, want %v", text, from, to, got, fault, want)
	}
}

func TestParseFaultsComeFirst(t *testing.T) {
	deep := "func f(a " + strings.Repeat("chan ", api.MaxNest) + "int) {}"
	full := "func f(){" + strings.Repeat("f();", api.MaxNodes/2) + "}"
	for _, x := range []struct {
		text string
		code api.Errno
		at   int
	}{
		{strings.Repeat(" ", api.MaxText+1), api.ErrSize, 0},
		{"type A struct{}\n#", api.ErrRune, 16},
		{"type A struct{a 01}", api.ErrSyntax, 16},
		{"type A struct{a}", api.ErrSyntax, 15},
		{"type I interface{m()", api.ErrSyntax, 20},
		{"int", api.ErrSyntax, 0},
		{deep, api.ErrDeep, 9 + 5*(api.MaxNest-1)},
		{full, api.ErrFull, len(full)},
	} {
		want := api.Fault{Code: x.code, At: x.at}
		if list, fault := Texts(x.text); fault != want || len(list) != 0 {
			t.Errorf("%.40q: Texts: %q, %v", x.text, list, fault)
		}
		for _, typ := range []string{"A", "*A", "I", "nil", "int", ""} {
			if list, fault := Methods(x.text, typ); fault != want || len(list) != 0 {
				t.Errorf("%.40q: Methods of %q: %q, %v", x.text, typ, list, fault)
			}
			// The same text fits, but not in what is no program.
			if is, fault := Fits(x.text, typ, typ); fault != want || is {
				t.Errorf("%.40q: Fits of %q: %v, %v", x.text, typ, is, fault)
			}
		}
	}
}

// C1

func TestTextsOfTypes(t *testing.T) {
	for typ, want := range map[string]string{
		"int":                                "int",
		"bool":                               "bool",
		"I":                                  "I",
		"_":                                  "_",
		"* A":                                "*A",
		"*\n// a note\nA":                    "*A",
		"chan\tint":                          "chan int",
		"chan  chan\nchan bool":              "chan chan chan bool",
		"chan*A":                             "chan *A",
		"func ( )":                           "func()",
		"func()int":                          "func() int",
		"func ( int )":                       "func(int)",
		"func(int , bool,*A, I) chan  I":     "func(int,bool,*A,I) chan I",
		"func()func()":                       "func() func()",
		"func()func()func(int)bool":          "func() func() func(int) bool",
		"func(func()int)":                    "func(func() int)",
		"func(func())int":                    "func(func()) int",
		"func(func(),func(int)bool)func()":   "func(func(),func(int) bool) func()",
		"chan func(chan int)chan func()":     "chan func(chan int) chan func()",
		"func(chan func(bool, bool)) chan A": "func(chan func(bool,bool)) chan A",
	} {
		for _, text := range []string{
			"type S struct{f " + typ + "}",
			"func f(){g(make(chan " + typ + "))}",
			"func f(){g(x.(" + typ + "))}",
		} {
			// It is the last of all that have a text.
			if list := textsOf(t, text); list[len(list)-1] != want {
				t.Errorf("%q: got %q, want %q", text, list, want)
			}
		}
	}
}

func TestTextsOfEachNode(t *testing.T) {
	for _, x := range []struct {
		text string
		want []string
	}{
		{"", []string{""}},
		{"type A struct {}", []string{"", ""}},
		{"type A struct {a int;b*A}", []string{"int", "", "*A", "", "", ""}},
		{"type I interface {m(k int) int;n()}", []string{"int", "", "int", "func(int) int", "", "func()", "", "", ""}},
		{"func f(a chan *A, b func(int) bool) I {}", []string{"*A", "chan *A", "", "int", "bool", "func(int) bool", "", "I", "func(chan *A,func(int) bool) I", "", "", ""}},
		{"func (a *A) m(b bool) *A {}", []string{"*A", "", "bool", "", "*A", "func(bool) *A", "", "", ""}},
		{"func f(){x:=make(chan int,3);y:=func()bool{return true};z:=new(A);w:=z.(*B)}", []string{
			"func()",
			"int", "", "",
			"bool", "func() bool", "", "", "", "", "",
			"", "",
			"", "*B", "", "",
			"", "", "",
		}},
	} {
		list, fault := Texts(x.text)
		if fault != (api.Fault{}) || !slices.Equal(list, x.want) {
			t.Errorf("%q: got %q, %v, want %q", x.text, list, fault, x.want)
		}
	}
}

// A program of all kinds of nodes: just types and sigs have a text.
func TestNoOtherNodesHaveTexts(t *testing.T) {
	text := `type A struct {f int; g *A}
type I interface {m(k int) int}
func (a *A) m(j int) int { return -j }
func f(b bool, c chan int, d func(I) bool) {
	x := make(chan int, 2)
	a := new(A)
	a.f = 1 + 2
	x <- a.m(3)
	go f(true, c, nil)
	if !b { panic(1) } else if false { print(<-x) }
	for b { break }
	select {
	case y := <-c:
		print(y)
	case c <- 1:
		close(c)
	default:
		g(func() {})
	}
	h(a.(I).(*A))
	<-x
	return
}
`
	nodes, fault := syntax.Parse(text)
	list, wrong := Texts(text)
	if fault != (api.Fault{}) || wrong != (api.Fault{}) || len(list) != len(nodes) {
		t.Fatal(fault, wrong, len(list), len(nodes))
	}
	seen := map[int]bool{}
	for i, n := range nodes {
		seen[n.Kind] = true
		has := api.KInt <= n.Kind && n.Kind <= api.KFuncType || n.Kind == api.KSig
		if has != (list[i] != "") {
			t.Errorf("node %d of kind %d: %q", i, n.Kind, list[i])
		}
	}
	for kind := api.KInt; kind <= api.KBinary; kind++ {
		if !seen[kind] {
			t.Errorf("no node of kind %d", kind)
		}
	}
}

func TestDeepTypes(t *testing.T) {
	chans := strings.Repeat("chan ", api.MaxNest-1) + "int"
	if list := textsOf(t, "func f(a "+chans+"){}"); list[len(list)-1] != "func("+chans+")" || list[len(list)-2] != chans {
		t.Errorf("got %q", list)
	}
	deep := (api.MaxNest - 1) / 2
	funcs := strings.Repeat("func(", deep) + strings.Repeat(")", deep)
	if list := textsOf(t, "func f(a "+funcs+"){}"); list[len(list)-1] != "func("+funcs+")" || list[0] != "func()" {
		t.Errorf("got %q", list)
	}
	long := strings.Repeat("n", api.MaxText-16)
	if list := textsOf(t, "type A struct{a "+long[:len(long)-1]+"}"); len(list) != 1 || list[0] != long[1:] {
		t.Error("a long name")
	}
}

// C2

func TestMethodsOfPointers(t *testing.T) {
	text := "type A struct {m int};type B struct {};func (a *A) n(){};func (b *B) o(){};func (c *A) m(j int, k *B) int {};func f(a *A) {};func (a *A) a(f func(int)bool) chan I {}"
	wantMethods(t, text, "*A", "a func(func(int) bool) chan I", "m func(int,*B) int", "n func()")
	wantMethods(t, text, "*B", "o func()")
	for _, typ := range []string{"A", "B", "**A", "* A", "*", "*C", "*f", "f", "chan *A", "func(*A)", "func()", "nil", "int", "bool", "", " ", "*A ", "*a", "\xff", "*\x00"} {
		wantMethods(t, text, typ)
	}
	// The struct need not be there.
	wantMethods(t, "func (a *A) m(){}", "*A", "m func()")
	wantMethods(t, "type A interface {n()};func (a *A) m(){}", "*A", "m func()")
	wantMethods(t, "", "*A")
}

func TestMethodsOfInterfaces(t *testing.T) {
	text := "type J interface {};type I interface {n();m(k int) int;b(x I, y *A) func(J)};type A struct {n func()};func (i *K) z(){}"
	wantMethods(t, text, "I", "b func(I,*A) func(J)", "m func(int) int", "n func()")
	for _, typ := range []string{"J", "*I", "K", "A", "*A", "i", "chan I", "func(I)", "", "I "} {
		wantMethods(t, text, typ)
	}
	wantMethods(t, "type A struct {};type A interface {m()};func (a *A) n(){}", "A", "m func()")
	wantMethods(t, "type A struct {};type A interface {m()};func (a *A) n(){}", "*A", "n func()")
}

func TestMethodsInTheOrderOfBytes(t *testing.T) {
	names := []string{"a1", "a", "_", "Z", "a_", "aB", "z", "ab", "A", "a10", "a2"}
	want := []string{"A func()", "Z func()", "_ func()", "a func()", "a1 func()", "a10 func()", "a2 func()", "aB func()", "a_ func()", "ab func()", "z func()"}
	iface, methods := "type I interface{", ""
	for _, name := range names {
		iface += name + "();"
		methods += "func (s *S) " + name + "(){};"
	}
	wantMethods(t, iface+"}", "I", want...)
	wantMethods(t, methods, "*S", want...)
}

// Names may be there twice: that is for another chapter to refuse. Each of the methods is told.
func TestMethodsThatAreThereTwice(t *testing.T) {
	wantMethods(t, "func (a *A) m(x int){};func (a *A) m(){};func (b *A) m(y int){}", "*A", "m func()", "m func(int)", "m func(int)")
	wantMethods(t, "type I interface {m(x int);m();m(y int)}", "I", "m func()", "m func(int)", "m func(int)")
	wantMethods(t, "type I interface {n()};type I interface {m()};type I interface {}", "I", "m func()", "n func()")
}

// C3

const shapes = `type Empty interface {}
type M interface {m(k int) int}
type N interface {m(other int) int; n()}
type P interface {m(k bool) int}
type Q interface {n() M}
type A struct {}
type B struct {m func(int) int; n func()}
type C struct {}
func (a *A) m(j int) int {}
func (c *C) n() {}
func (c *C) m(j int) int {}
func (c *C) o() {}
func (d *D) m(j int) int {}
func (m *M) m(j int) int {}
func f() {}
`

func TestTheSameFits(t *testing.T) {
	for _, typ := range []string{"int", "bool", "nil", "M", "Empty", "*A", "*Z", "Z", "chan int", "func()", "func(int) M", "", "?", "\xff"} {
		wantFits(t, shapes, typ, typ, true)
		wantFits(t, "", typ, typ, true)
	}
	// Just what is the same text.
	for _, x := range [][2]string{
		{"int", "bool"}, {"bool", "int"}, {"int", "int "}, {"", "int"}, {"int", ""}, {"*A", "*B"}, {"*A", "A"}, {"A", "*A"}, {"A", "B"},
		{"chan int", "chan  int"}, {"chan *A", "chan M"}, {"chan M", "chan *A"}, {"chan M", "chan Empty"},
		{"func()", "func() int"}, {"func(M)", "func(*A)"}, {"func(*A)", "func(M)"}, {"func() *A", "func() M"},
		{"M", "*A"}, {"Empty", "int"}, {"M", "nil"}, {"*A", "nil"}, {"", "nil"}, {"int", "nil"},
	} {
		wantFits(t, shapes, x[0], x[1], false)
	}
}

func TestWhatNilFits(t *testing.T) {
	for typ, want := range map[string]bool{
		"nil": true, "*A": true, "*Z": true, "*": true, "*M": true, "chan int": true, "chan ": true, "chan Z": true, "chan func()": true,
		"func()": true, "func(": true, "func(int) int": true, "M": true, "Empty": true, "N": true,
		"int": false, "bool": false, "": false, "A": false, "Z": false, "f": false, "chan": false, "chanint": false, "chan\tint": false,
		"func": false, "func ()": false, " *A": false, "nil ": false, "n": false, "m": false,
	} {
		wantFits(t, shapes, "nil", typ, want)
	}
	wantFits(t, "type chans interface {};type funcs interface {}", "nil", "chans", true)
	wantFits(t, "type chans interface {};type funcs interface {}", "nil", "funcs", true)
	wantFits(t, "type chans struct {};type funcs struct {}", "nil", "chans", false)
	wantFits(t, "type chans struct {};type funcs struct {}", "nil", "funcs", false)
}

func TestWhatFitsInterfaces(t *testing.T) {
	fits := map[string]string{ // of each type the interfaces that it fits
		"*A":     "Empty M",
		"*B":     "Empty", // fields are no methods
		"*C":     "Empty M N",
		"*D":     "", // a method, but no struct
		"*M":     "",
		"*Z":     "",
		"Empty":  "Empty",
		"M":      "Empty M",
		"N":      "Empty M N",
		"P":      "Empty P",
		"Q":      "Empty Q",
		"A":      "",
		"C":      "",
		"int":    "",
		"bool":   "",
		"":       "",
		"*":      "",
		"Z":      "",
		"chan A": "", "chan M": "", "func()": "", "func(int) int": "", "f": "", "m": "",
	}
	for from, all := range fits {
		for _, to := range []string{"Empty", "M", "N", "P", "Q"} {
			wantFits(t, shapes, from, to, slices.Contains(strings.Fields(all), to))
		}
		// Of what is no interface's name just the same fits.
		for _, to := range []string{"A", "B", "C", "D", "*A", "*B", "*C", "Z", "f"} {
			wantFits(t, shapes, from, to, from == to)
		}
	}
}

func TestFitsByWholeMethods(t *testing.T) {
	for _, x := range []struct {
		asked, has string
		want       bool
	}{
		{"m()", "m()", true},
		{"m(a int)", "m(b int)", true},
		{"m()", "n()", false},
		{"m()", "M()", false},
		{"m()", "mm()", false},
		{"mm()", "m()", false},
		{"m()", "m() int", false},
		{"m() int", "m()", false},
		{"m() int", "m() bool", false},
		{"m(a int)", "m()", false},
		{"m(a int, b bool)", "m(a bool, b int)", false},
		{"m(a int, b int)", "m(a int)", false},
		{"m(a I)", "m(a *S)", false},
		{"m() I", "m() *S", false},
		{"m(a func(int) bool) chan I", "m(z func( int )bool) chan\tI", true},
		{"m(a func()) int", "m(a func() int)", false},
	} {
		text := "type I interface {" + x.asked + "};type J interface {" + x.has + ";z()};type S struct {};func (s *S) a() {};func (s *S) " + x.has + " {}"
		wantFits(t, text, "*S", "I", x.want)
		wantFits(t, text, "J", "I", x.want)
		wantFits(t, text, "I", "J", false)
	}
}

func TestFitsWhereNamesAreThereTwice(t *testing.T) {
	// What is had once is had, how often it may be asked.
	wantFits(t, "type I interface {m();m()};type A struct {};func (a *A) m(){}", "*A", "I", true)
	wantFits(t, "type I interface {m();m(x int)};type A struct {};func (a *A) m(){}", "*A", "I", false)
	wantFits(t, "type I interface {m()};type A struct {};func (a *A) m(x int){};func (a *A) m(){}", "*A", "I", true)
	// One name of a struct and of an interface.
	text := "type A interface {m()};type A struct {};func (a *A) m(){}"
	wantFits(t, text, "*A", "A", true)
	wantFits(t, text, "A", "*A", false)
	wantFits(t, "type A struct {};type A interface {}", "nil", "A", true)
	wantFits(t, "type A struct {};type A interface {};type I interface {}", "A", "I", true)
}

func TestManyMethods(t *testing.T) {
	var b strings.Builder
	b.WriteString("type I interface {")
	var want []string
	for i := range 550 {
		name := "m" + string(rune('a'+i/26)) + string(rune('a'+i%26))
		b.WriteString(name + "();")
		want = append(want, name+" func()")
	}
	b.WriteString("};type J interface {mba();maz()}")
	wantMethods(t, b.String(), "I", want...)
	wantFits(t, b.String(), "I", "J", true)
	wantFits(t, b.String(), "J", "I", false)
}

// P3

func TestNewLists(t *testing.T) {
	first, _ := Methods(shapes, "*C")
	second, _ := Methods(shapes, "*C")
	kept := slices.Clone(second)
	clear(first)
	if len(kept) == 0 || !slices.Equal(second, kept) {
		t.Error("two answers of Methods share memory")
	}
	one, _ := Texts(shapes)
	other, _ := Texts(shapes)
	kept = slices.Clone(other)
	clear(one)
	if len(kept) == 0 || !slices.Equal(other, kept) {
		t.Error("two answers of Texts share memory")
	}
}

// Split is what tellFunc writes, read; of other texts it says that they are none.
func TestSplit(t *testing.T) {
	for _, x := range []struct {
		typ   string
		takes []string
		back  string
	}{
		{"func()", nil, ""},
		{"func() int", nil, "int"},
		{"func(int)", []string{"int"}, ""},
		{"func(int,bool,*A) chan I", []string{"int", "bool", "*A"}, "chan I"},
		{"func() func()", nil, "func()"},
		{"func() func(int,int) bool", nil, "func(int,int) bool"},
		{"func(func())", []string{"func()"}, ""},
		{"func(func(),func()) int", []string{"func()", "func()"}, "int"},
		{"func(func(int,bool) int,chan func(func(),I)) func(func()) *A", []string{"func(int,bool) int", "chan func(func(),I)"}, "func(func()) *A"},
	} {
		takes, back, is := Split(x.typ)
		if !is || !slices.Equal(takes, x.takes) || back != x.back {
			t.Errorf("%q: %q, %q, %v", x.typ, takes, back, is)
		}
	}
	for _, typ := range []string{"", "int", "nil", "chan func()", "*func()", "func", "func(", "func(int", "func(int,", "func(func()", " func()", "fun()"} {
		if takes, back, is := Split(typ); is || takes != nil || back != "" {
			t.Errorf("%q: %q, %q, %v", typ, takes, back, is)
		}
	}
}

// A table that nobody has read has no types, and what is asked of it has an answer.
func TestTable(t *testing.T) {
	var none Table
	if none.IsIface("I") || none.IsPointer("*A") || none.Fits("*A", "I") || !none.Fits("nil", "*A") || !none.Fits("I", "I") {
		t.Error("a table without types has some")
	}
	table, fault := Read("type A struct{};type I interface{}")
	if fault != (api.Fault{}) || len(table.Nodes) != 3 || len(table.Texts) != 3 {
		t.Fatal(table, fault)
	}
	if !table.IsIface("I") || table.IsIface("A") || table.IsIface("*A") || !table.IsPointer("*A") || table.IsPointer("A") || table.IsPointer("*I") {
		t.Error("the table has other types")
	}
	if table, fault := Read("type A"); fault.Code != api.ErrSyntax || table.Nodes != nil || table.Texts != nil {
		t.Error(table, fault)
	}
}

// Field and Method answer the number of the first member's type, of all decls of the name.
func TestMembers(t *testing.T) {
	table, fault := Read("type A struct{a int;b bool};type I interface{m();n(a int)};type A struct{b chan int;c *A};type I interface{n();o() int};func (a *A) m(){};func (a *A) m(b int){};func (i *I) p(){};type m struct{m int}")
	if fault != (api.Fault{}) {
		t.Fatal(fault)
	}
	for _, x := range []struct{ typ, name, field, method string }{
		{"*A", "a", "int", ""},
		{"*A", "b", "bool", ""},
		{"*A", "c", "*A", ""},
		{"*A", "m", "", "func()"},
		{"I", "m", "", "func()"},
		{"I", "n", "", "func(int)"},
		{"I", "o", "", "func() int"},
		{"*I", "p", "", "func()"},
		{"*m", "m", "int", ""},
		{"A", "a", "", ""}, {"A", "m", "", ""}, {"*I", "m", "", ""}, {"I", "p", "", ""}, {"*A", "", "", ""}, {"", "m", "", ""}, {"*B", "a", "", ""}, {"m", "m", "", ""}, {"*A", "d", "", ""},
	} {
		text := func(number int) string {
			if number < 0 {
				return ""
			}
			return table.Texts[number]
		}
		if field, method := table.Field(x.typ, x.name), table.Method(x.typ, x.name); text(field) != x.field || text(method) != x.method {
			t.Errorf("%q of %q: %d, %d", x.name, x.typ, field, method)
		}
	}
	var none Table
	if none.Field("*A", "a") != -1 || none.Method("I", "m") != -1 {
		t.Error("a table without types has members")
	}
}
