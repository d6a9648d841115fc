package types

import (
	"strings"

	"ravel/api"
)

// tell answers the text of a node that is a type or a sig, else the empty text. The texts of its kids have to be there.
func (t Table) tell(n api.Node) string {
	switch n.Kind {
	case api.KInt:
		return "int"
	case api.KBool:
		return "bool"
	case api.KNamed:
		return n.Text
	case api.KPtr:
		return "*" + n.Text
	case api.KChan:
		return "chan " + t.Texts[n.Kids[0]]
	case api.KFuncType, api.KSig:
		return t.tellFunc(n)
	}
	return ""
}

// tellFunc answers the text of a function's type: its first kids are handed over, one more comes back, if it is there.
func (t Table) tellFunc(n api.Node) string {
	var parts []string
	for _, kid := range n.Kids {
		parts = append(parts, t.typeOf(kid))
	}
	text := "func(" + strings.Join(parts[:n.Num], ",") + ")"
	if len(parts) > n.Num {
		text += " " + parts[n.Num]
	}
	return text
}

// typeOf answers the type of a param, or the one that a node is.
func (t Table) typeOf(number int) string {
	if n := t.Nodes[number]; n.Kind == api.KParam {
		return t.Texts[n.Kids[0]]
	}
	return t.Texts[number]
}

// Split answers what the function of a type takes, and what comes back (the empty text: nothing), and whether the type is a function's.
func Split(typ string) (takes []string, back string, is bool) {
	rest, is := strings.CutPrefix(typ, "func(")
	if !is {
		return nil, "", false
	}
	from, open := 0, 0
	for i := range len(rest) {
		switch sign := rest[i]; {
		case sign == '(':
			open++
		case sign == ')' && open > 0:
			open--
		case sign == ')':
			// Of "()" no type is taken, not an empty one.
			if i > 0 {
				takes = append(takes, rest[from:i])
			}
			return takes, strings.TrimPrefix(rest[i+1:], " "), true
		case sign == ',' && open == 0:
			takes = append(takes, rest[from:i])
			from = i + 1
		}
	}
	return nil, "", false
}
