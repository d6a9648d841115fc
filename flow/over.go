package flow

import "slices"

// view has what is known of the reached stations of a program.
type view struct {
	place []int // of each node its place in the order of the reached stations, or -1
	over  []int // of each node the nearest station over it, or -1
}

// look finds of each reached station the nearest one over it: the nearest that is over, or is, each one from which an edge leads to it. Those that come from behind it in the order need not be asked: they are rounds, whose station is over them already.
func (g graph) look() view {
	order := g.order()
	none := slices.Repeat([]int{-1}, len(g.nodes))
	v := view{place: slices.Clone(none), over: none}
	for place, station := range order {
		v.place[station] = place
	}
	from := g.grouped(1)
	for place, station := range order {
		for _, ahead := range from[station] {
			if v.isReached(ahead) && v.place[ahead] < place {
				v.over[station] = v.common(v.over[station], ahead)
			}
		}
	}
	return v
}

func (v view) isReached(station int) bool { return v.place[station] >= 0 }

// common answers the nearest station that is over, or is, both of two of one function; or the second one, if there is no first one.
func (v view) common(a, b int) int {
	if a < 0 {
		return b
	}
	for a != b {
		if v.place[a] > v.place[b] {
			a = v.over[a]
		} else {
			b = v.over[b]
		}
	}
	return a
}

// isRound tells whether an edge leads from a reached station to one that is over it, or is itself.
func (v view) isRound(edge [2]int) bool {
	if !v.isReached(edge[0]) {
		return false
	}
	at := edge[0]
	for at >= 0 && at != edge[1] {
		at = v.over[at]
	}
	return at >= 0
}
