package check

import (
	"strings"

	"ravel/api"
	"ravel/types"
)

// expr answers the type of an expression, or what is wrong with it.
func (c checker) expr(number int) (string, api.Errno) {
	n := c.Nodes[number]
	switch n.Kind {
	case api.KNumber:
		return "int", api.OK
	case api.KTruth:
		return "bool", api.OK
	case api.KNil:
		return "nil", api.OK
	case api.KName:
		return c.name(number)
	case api.KDot:
		return c.dot(number)
	case api.KCall:
		return c.call(number)
	case api.KAssert:
		return c.assert(number)
	case api.KLit:
		return c.kidType(number, 0), api.OK
	case api.KNew:
		typ := "*" + n.Text
		return typ, unless(c.IsPointer(typ), api.ErrName)
	case api.KMake:
		return "chan " + c.kidType(number, 0), unless(n.Num <= api.MaxRoom, api.ErrRange)
	case api.KNot:
		return "bool", unless(c.kidType(number, 0) == "bool", api.ErrType)
	case api.KNeg:
		return "int", unless(c.kidType(number, 0) == "int", api.ErrType)
	case api.KRecv:
		of, is := carried(c.kidType(number, 0))
		return of, unless(is, api.ErrType)
	}
	return c.binary(n.Text, c.kidType(number, 0), c.kidType(number, 1))
}

func (c checker) name(number int) (string, api.Errno) {
	giver := c.use(number)
	if giver < 0 {
		return "", api.ErrName
	}
	c.uses[number] = giver
	return c.given(giver), api.OK
}

// dot answers the type of a field or a method. A struct that is not there may have methods: that is told where it is named.
func (c checker) dot(number int) (string, api.Errno) {
	typ, name := c.kidType(number, 0), c.Nodes[number].Text
	if !c.IsIface(typ) && !strings.HasPrefix(typ, "*") {
		return "", api.ErrType
	}
	// The table is asked, as it is for what fits: it has all that several decls of one name say.
	member := c.Field(typ, name)
	if member < 0 {
		member = c.Method(typ, name)
	}
	if member < 0 {
		return "", api.ErrName
	}
	return c.Texts[member], api.OK
}

func (c checker) call(number int) (string, api.Errno) {
	values := c.Nodes[number].Kids[1:]
	takes, back, is := types.Split(c.kidType(number, 0))
	if !is {
		return "", api.ErrType
	}
	if len(values) != len(takes) {
		return "", api.ErrCount
	}
	for i, value := range values {
		if !c.Fits(c.Texts[value], takes[i]) {
			return "", api.ErrType
		}
	}
	return back, api.OK
}

func (c checker) assert(number int) (string, api.Errno) {
	from, to := c.kidType(number, 0), c.kidType(number, 1)
	can := c.IsIface(from) && strings.HasPrefix(to, "*") && c.Fits(to, from)
	return to, unless(can, api.ErrType)
}

// binary answers the type of an operator between two types.
func (c checker) binary(sign, left, right string) (string, api.Errno) {
	both := func(typ string) api.Errno { return unless(left == typ && right == typ, api.ErrType) }
	switch sign {
	case "+", "-", "*", "/", "%":
		return "int", both("int")
	case "<", "<=", ">", ">=":
		return "bool", both("int")
	case "&&", "||":
		return "bool", both("bool")
	}
	return "bool", unless(c.canBeSame(left, right), api.ErrType)
}

// canBeSame tells whether values of two types can be held against each other.
func (c checker) canBeSame(left, right string) bool {
	if left == "" || right == "" || left == "nil" && right == "nil" {
		return false
	}
	isFunc := strings.HasPrefix(left, "func(") || strings.HasPrefix(right, "func(")
	if isFunc && left != "nil" && right != "nil" {
		return false
	}
	return c.Fits(left, right) || c.Fits(right, left)
}
