package types

import (
	"strings"

	"ravel/api"
)

// tell answers the text of a node that is a type or a sig, else the empty text. The texts of its kids have to be there.
func (t table) tell(n api.Node) string {
	switch n.Kind {
	case api.KInt:
		return "int"
	case api.KBool:
		return "bool"
	case api.KNamed:
		return n.Text
	case api.KPtr:
		return "*" + n.Text
	case api.KChan:
		return "chan " + t.texts[n.Kids[0]]
	case api.KFuncType, api.KSig:
		return t.tellFunc(n)
	}
	return ""
}

// tellFunc answers the text of a function's type: its first kids are handed over, one more comes back, if it is there.
func (t table) tellFunc(n api.Node) string {
	var parts []string
	for _, kid := range n.Kids {
		parts = append(parts, t.typeOf(kid))
	}
	text := "func(" + strings.Join(parts[:n.Num], ",") + ")"
	if len(parts) > n.Num {
		text += " " + parts[n.Num]
	}
	return text
}

// typeOf answers the type of a param, or the one that a node is.
func (t table) typeOf(number int) string {
	if n := t.nodes[number]; n.Kind == api.KParam {
		return t.texts[n.Kids[0]]
	}
	return t.texts[number]
}
