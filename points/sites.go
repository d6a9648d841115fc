package points

import "math/bits"

// sites has the bits of the numbers of sites: so many of them go from one place to another one at once.
type sites []uint64

func noSites(nodes int) sites {
	return make(sites, (nodes+63)/64)
}

// add lays a site there, and tells whether it is new.
func (s sites) add(site int) bool {
	old := s[site/64]
	s[site/64] |= 1 << (site % 64)
	return s[site/64] != old
}

// join lays others there, and tells whether some of them are new.
func (s sites) join(others sites) bool {
	isNew := false
	for i, word := range others {
		isNew = isNew || word&^s[i] != 0
		s[i] |= word
	}
	return isNew
}

// without answers those that are not among others.
func (s sites) without(others sites) sites {
	out := make(sites, len(s))
	for i, word := range s {
		out[i] = word &^ others[i]
	}
	return out
}

// list answers the numbers, rising.
func (s sites) list() []int {
	var out []int
	for i, word := range s {
		for ; word != 0; word &= word - 1 {
			out = append(out, i*64+bits.TrailingZeros64(word))
		}
	}
	return out
}
