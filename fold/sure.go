package fold

import (
	"ravel/api"
	"ravel/consts"
)

// surely tells of each node whether it is an expression that is always one number, and that may be left out, as nothing in it can fall, or do anything.
func surely(p consts.Program) []bool {
	sure := make([]bool, len(p.Nodes))
	safe := make([]bool, len(p.Nodes)) // those in which nothing can
	// A node's kids have lower numbers, so that they are looked at already.
	for number, n := range p.Nodes {
		safe[number] = isSafe(p, n)
		for _, kid := range n.Kids {
			safe[number] = safe[number] && safe[kid]
		}
		_, isAlways := p.Always(number)
		sure[number] = isAlways && safe[number]
	}
	return sure
}

// isSafe tells whether a node by itself can neither fall nor do anything.
func isSafe(p consts.Program, n api.Node) bool {
	switch n.Kind {
	case api.KNumber, api.KTruth, api.KName, api.KNeg, api.KNot:
		return true
	case api.KBinary:
		return n.Text != "/" && n.Text != "%" || neverZero(p, n.Kids[1])
	}
	return false
}

// neverZero tells whether an expression is always a number other than 0. Where nobody comes it is not there, so it is none.
func neverZero(p consts.Program, number int) bool {
	num, is := p.Always(number)
	return is && num != 0
}
