package races

import (
	"cmp"
	"maps"
	"slices"

	"ravel/run"
)

// touches answers the places of reads and writes, in order, by what they touch.
func touches(deeds []run.Deed) map[int][]int {
	out := map[int][]int{}
	for place, d := range deeds {
		if d.Doing == run.Reads || d.Doing == run.Writes {
			out[d.On] = append(out[d.On], place)
		}
	}
	return out
}

// racing answers the pairs of nodes of touches that are not in order.
func racing(deeds []run.Deed, ahead func(a, b int) bool) [][2]int {
	found := map[[2]int]struct{}{}
	for _, places := range touches(deeds) {
		for i, later := range places {
			for _, earlier := range places[:i] {
				// The later one is ahead of nothing that was done already.
				a, b := deeds[earlier], deeds[later]
				if (a.Doing == run.Writes || b.Doing == run.Writes) && !ahead(earlier, later) {
					found[[2]int{min(a.Node, b.Node), max(a.Node, b.Node)}] = struct{}{}
				}
			}
		}
	}
	return slices.SortedFunc(maps.Keys(found), func(p, q [2]int) int {
		return cmp.Or(cmp.Compare(p[0], q[0]), cmp.Compare(p[1], q[1]))
	})
}
