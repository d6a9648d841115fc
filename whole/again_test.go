package whole

import (
	"slices"
	"strings"

	"ravel/api"
	"ravel/syntax"
	"ravel/types"
)

// again is a second checker, which asks of each node by the chapter's words: a name is looked for among all that reach it.
type again struct {
	text   string
	nodes  []api.Node
	table  types.Table
	texts  []string // of each node its type, once it is known
	parent []int
	low    []int // of each node the least number below it, or its own
}

// newAgain answers one that knows how a program's nodes stand, but no types of expressions yet; or the text's fault.
func newAgain(text string) (*again, api.Fault) {
	nodes, fault := syntax.Parse(text)
	if fault.Code != api.OK {
		return nil, fault
	}
	table, _ := types.Read(text)
	a := &again{text: text, nodes: nodes, table: table, texts: slices.Clone(table.Texts), parent: make([]int, len(nodes)), low: make([]int, len(nodes))}
	for i, n := range nodes {
		a.low[i] = i
		for _, kid := range n.Kids {
			a.parent[kid] = i
			a.low[i] = min(a.low[i], a.low[kid])
		}
	}
	return a, api.Fault{}
}

// checkAgain answers the first fault of a program.
func checkAgain(text string) api.Fault {
	a, fault := newAgain(text)
	if fault.Code != api.OK {
		return fault
	}
	for i, n := range a.nodes {
		code := a.type1(i)
		if n.Kind >= api.KNumber {
			a.texts[i], code = a.expr(i)
		} else if n.Kind >= api.KBlock {
			code = a.stmt(i)
		}
		if n.Kind == api.KProgram && code != api.OK {
			return api.Fault{Code: code}
		} else if code != api.OK {
			return api.Fault{Code: code, At: n.At}
		}
	}
	return api.Fault{}
}

func (a *again) kind(i int) int { return a.nodes[i].Kind }

// kid answers the type of a kid.
func (a *again) kid(i, k int) string { return a.texts[a.nodes[i].Kids[k]] }

func (a *again) fits(from, to string) bool {
	return a.table.Fits(from, to)
}

// count counts the nodes ahead of i (of all: i is how many there are) that are as asked.
func (a *again) count(i int, asked func(k int, n api.Node) bool) int {
	count := 0
	for k, n := range a.nodes[:i] {
		if asked(k, n) {
			count++
		}
	}
	return count
}

func (a *again) named(kind int, name string) bool {
	return a.count(len(a.nodes), func(k int, n api.Node) bool { return n.Kind == kind && n.Text == name }) > 0
}

// twice answers ErrTwice, if a node ahead is as asked.
func (a *again) twice(i int, asked func(k int, n api.Node) bool) api.Errno {
	if a.count(i, asked) > 0 {
		return api.ErrTwice
	}
	return api.OK
}

// type1 asks of types, decls and their parts.
func (a *again) type1(i int) api.Errno {
	n := a.nodes[i]
	ok := map[bool]api.Errno{true: api.OK, false: api.ErrName}
	beside := func(k int, o api.Node) bool {
		return o.Kind == n.Kind && o.Text == n.Text && a.parent[k] == a.parent[i]
	}
	switch n.Kind {
	case api.KNamed:
		return ok[a.named(api.KIface, n.Text)]
	case api.KPtr:
		return ok[a.named(api.KStruct, n.Text)]
	case api.KParam:
		return a.twice(i, func(k int, o api.Node) bool {
			own := a.kind(a.parent[k]) == api.KMethod && a.parent[a.parent[i]] == a.parent[k]
			return beside(k, o) || o.Kind == api.KParam && o.Text == n.Text && own
		})
	case api.KField, api.KMethodSig:
		return a.twice(i, beside)
	case api.KStruct, api.KIface, api.KFunc:
		code := a.twice(i, func(k int, o api.Node) bool {
			return slices.Contains([]int{api.KStruct, api.KIface, api.KFunc}, o.Kind) && o.Text == n.Text
		})
		if code == api.OK && n.Kind == api.KFunc && n.Text == "main" && len(a.nodes[n.Kids[0]].Kids) > 0 {
			return api.ErrMain
		}
		return code
	case api.KMethod:
		typ := a.kid(n.Kids[0], 0)
		isMethod := func(k int, o api.Node) bool {
			return o.Kind == api.KMethod && o.Text == n.Text && a.kid(o.Kids[0], 0) == typ
		}
		if _, isField := a.member(api.KField, typ, n.Text); isField || a.count(i, isMethod) > 0 {
			return api.ErrTwice
		}
	case api.KProgram:
		if !a.named(api.KFunc, "main") {
			return api.ErrMain
		}
	}
	return api.OK
}

// member answers the type of a field of a struct (KField), a method of it (KMethod), or one of an interface (KMethodSig), and whether it is there.
func (a *again) member(kind int, typ, name string) (string, bool) {
	for i, n := range a.nodes {
		if n.Kind != kind || n.Text != name {
			continue
		}
		switch kind {
		case api.KField:
			if "*"+a.nodes[a.parent[i]].Text == typ {
				return a.kid(i, 0), true
			}
		case api.KMethodSig:
			if a.nodes[a.parent[i]].Text == typ {
				return a.kid(i, 0), true
			}
		case api.KMethod:
			if a.kid(n.Kids[0], 0) == typ {
				return a.kid(i, 1), true
			}
		}
	}
	return "", false
}

// reach answers from which node on, and ahead of which one, a node gives its name.
func (a *again) reach(i int) (from, to int) {
	n := a.nodes[i]
	up := a.parent[i]
	switch n.Kind {
	case api.KDefine:
		return i + 1, up
	case api.KCaseRecv:
		return a.low[n.Kids[1]], i
	case api.KParam:
		if a.kind(up) == api.KSig {
			up = a.parent[up]
		}
		kids := a.nodes[up].Kids
		return a.low[kids[len(kids)-1]], up
	}
	return 0, 0
}

// user answers what a name is of: of all that reach it what begins to last.
func (a *again) user(i int) (best int) {
	best, start := -1, -1
	for k, n := range a.nodes {
		if slices.Contains([]int{api.KDefine, api.KCaseRecv, api.KParam}, n.Kind) && n.Text == a.nodes[i].Text {
			if from, to := a.reach(k); from <= i && i < to && from > start {
				best, start = k, from
			}
		}
	}
	for k, n := range a.nodes {
		if best < 0 && n.Kind == api.KFunc && n.Text == a.nodes[i].Text {
			return k
		}
	}
	return best
}

func (a *again) expr(i int) (string, api.Errno) {
	n := a.nodes[i]
	answer := func(is bool, typ string, code api.Errno) (string, api.Errno) {
		if is {
			return typ, api.OK
		}
		return "", code
	}
	switch n.Kind {
	case api.KNumber:
		return "int", api.OK
	case api.KTruth:
		return "bool", api.OK
	case api.KNil:
		return "nil", api.OK
	case api.KName:
		giver := a.user(i)
		if giver < 0 {
			return "", api.ErrName
		}
		if a.kind(giver) == api.KCaseRecv && !isChan(a.kid(giver, 0)) {
			return "", api.OK
		} else if a.kind(giver) == api.KCaseRecv {
			return a.kid(giver, 0)[5:], api.OK
		}
		return a.kid(giver, 0), api.OK
	case api.KDot:
		return a.dot(a.kid(i, 0), n.Text)
	case api.KCall:
		return a.call(i)
	case api.KAssert:
		from, to := a.kid(i, 0), a.kid(i, 1)
		return answer(a.named(api.KIface, from) && to[0] == '*' && a.fits(to, from), to, api.ErrType)
	case api.KLit:
		return a.kid(i, 0), api.OK
	case api.KNew:
		return answer(a.named(api.KStruct, n.Text), "*"+n.Text, api.ErrName)
	case api.KMake:
		return answer(n.Num <= 8, "chan "+a.kid(i, 0), api.ErrRange)
	case api.KNot:
		return answer(a.kid(i, 0) == "bool", "bool", api.ErrType)
	case api.KNeg:
		return answer(a.kid(i, 0) == "int", "int", api.ErrType)
	case api.KRecv:
		return answer(isChan(a.kid(i, 0)), strings.TrimPrefix(a.kid(i, 0), "chan "), api.ErrType)
	}
	left, right := a.kid(i, 0), a.kid(i, 1)
	switch {
	case strings.Contains("+-*/%", n.Text):
		return answer(left == "int" && right == "int", "int", api.ErrType)
	case n.Text == "&&" || n.Text == "||":
		return answer(left == "bool" && right == "bool", "bool", api.ErrType)
	case n.Text[0] == '<' || n.Text[0] == '>':
		return answer(left == "int" && right == "int", "bool", api.ErrType)
	}
	is := a.fits(left, right) || a.fits(right, left)
	is = is && left != "" && right != "" && left+right != "nilnil"
	is = is && (!strings.HasPrefix(left, "func(") || right == "nil") && (!strings.HasPrefix(right, "func(") || left == "nil")
	return answer(is, "bool", api.ErrType)
}

func isChan(typ string) bool { return strings.HasPrefix(typ, "chan ") }

// dot asks Methods whether there is a method, so that the chapters say the same of it.
func (a *again) dot(typ, name string) (string, api.Errno) {
	kind := api.KMethod
	if a.named(api.KIface, typ) {
		kind = api.KMethodSig
	} else if !strings.HasPrefix(typ, "*") {
		return "", api.ErrType
	} else if found, is := a.member(api.KField, typ, name); is {
		return found, api.OK
	}
	methods, _ := types.Methods(a.text, typ)
	if !slices.ContainsFunc(methods, func(method string) bool { return strings.HasPrefix(method, name+" ") }) {
		return "", api.ErrName
	}
	found, _ := a.member(kind, typ, name)
	return found, api.OK
}

// call asks of a call: what it takes is read from the types' own nodes, in a program that has such a param.
func (a *again) call(i int) (string, api.Errno) {
	typ := a.kid(i, 0)
	if !strings.HasPrefix(typ, "func(") {
		return "", api.ErrType
	}
	text := "func f(x " + typ + "){}"
	nodes, _ := syntax.Parse(text)
	texts, _ := types.Texts(text)
	n := nodes[slices.IndexFunc(nodes, func(n api.Node) bool { return n.Kind == api.KParam })-1]
	values := a.nodes[i].Kids[1:]
	if len(values) != n.Num {
		return "", api.ErrCount
	}
	for k, value := range values {
		if !a.fits(a.texts[value], texts[n.Kids[k]]) {
			return "", api.ErrType
		}
	}
	if len(n.Kids) > n.Num {
		return texts[n.Kids[n.Num]], api.OK
	}
	return "", api.OK
}

func (a *again) stmt(i int) api.Errno {
	n := a.nodes[i]
	first, second, kind := "", "", 0
	if len(n.Kids) > 0 {
		first, kind = a.kid(i, 0), a.kind(n.Kids[0])
	}
	if len(n.Kids) > 1 {
		second = a.kid(i, 1)
	}
	wrong := map[bool]api.Errno{true: api.ErrType, false: api.OK}
	switch n.Kind {
	case api.KDefine:
		if first == "" || first == "nil" {
			return api.ErrType
		}
		return a.twice(i, func(k int, o api.Node) bool {
			return o.Kind == api.KDefine && o.Text == n.Text && a.parent[k] == a.parent[i]
		})
	case api.KAssign:
		left := a.nodes[n.Kids[0]]
		isVar := kind == api.KName && a.kind(a.user(n.Kids[0])) != api.KFunc
		isField := false
		if kind == api.KDot {
			_, isField = a.member(api.KField, a.kid(n.Kids[0], 0), left.Text)
		}
		return wrong[!isVar && !isField || !a.fits(second, first)]
	case api.KSend, api.KCaseSend:
		return wrong[!isChan(first) || !a.fits(second, first[5:])]
	case api.KCaseRecv, api.KClose:
		return wrong[!isChan(first)]
	case api.KDo:
		return wrong[kind != api.KCall && kind != api.KRecv]
	case api.KGo:
		return wrong[kind != api.KCall]
	case api.KPanic:
		return wrong[first != "int"]
	case api.KPrint:
		return wrong[first != "int" && first != "bool"]
	case api.KIf, api.KFor:
		return wrong[first != "bool"]
	case api.KReturn:
		return a.returns(i)
	case api.KBreak:
		return wrong[a.around(i, api.KFor) > a.around(i, api.KFunc, api.KMethod, api.KLit)]
	case api.KSelect:
		if a.count(i, func(k int, o api.Node) bool { return o.Kind == api.KCaseElse && a.parent[k] == i }) > 1 {
			return api.ErrTwice
		}
	}
	return api.OK
}

// around answers the number of the nearest node around of these kinds, or that of all nodes.
func (a *again) around(i int, kinds ...int) int {
	for k := i + 1; k < len(a.nodes); k++ {
		if slices.Contains(kinds, a.kind(k)) && a.low[k] <= i {
			return k
		}
	}
	return len(a.nodes)
}

func (a *again) returns(i int) api.Errno {
	n := a.nodes[i]
	up := a.around(i, api.KFunc, api.KMethod, api.KLit)
	sig := a.nodes[up].Kids[len(a.nodes[up].Kids)-2]
	gives := a.nodes[sig].Num < len(a.nodes[sig].Kids)
	switch {
	case gives != (len(n.Kids) == 1):
		return api.ErrCount
	case gives && !a.fits(a.kid(i, 0), a.kid(sig, a.nodes[sig].Num)):
		return api.ErrType
	}
	return api.OK
}
