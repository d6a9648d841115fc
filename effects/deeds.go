package effects

import (
	"math/bits"

	"ravel/api"
)

// deeds has the bits of the kinds of what is done.
type deeds uint64

// deed answers what a node does by itself, perhaps nothing. What a case does is told as if it were done without a select.
func deed(kind int) deeds {
	switch kind {
	case api.KSend, api.KCaseSend:
		return 1 << api.KSend
	case api.KRecv, api.KCaseRecv:
		return 1 << api.KRecv
	case api.KClose, api.KPrint, api.KGo, api.KPanic:
		return 1 << kind
	}
	return 0
}

// list answers the kinds, rising.
func (d deeds) list() []int {
	var out []int
	for ; d != 0; d &= d - 1 {
		out = append(out, bits.TrailingZeros64(uint64(d)))
	}
	return out
}
