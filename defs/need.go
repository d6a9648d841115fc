package defs

import "slices"

// variables are those that are needed somewhere.
type variables map[int]struct{}

func (v variables) has(variable int) bool {
	_, is := v[variable]
	return is
}

// need answers of each station the variables that are needed ahead of it. No step sets params: they are handed over ahead of the function's node, so they can be needed there.
func (t *table) need() []variables {
	ahead := make([]variables, len(t.Nodes))
	for number := range ahead {
		ahead[number] = variables{}
	}
	for name, variable := range t.reads {
		if variable >= 0 {
			ahead[t.stations[name]][variable] = struct{}{}
		}
	}
	backward := slices.Clone(t.steps)
	slices.Reverse(backward)
	settle(backward, func(s step) int { return len(ahead[s.to]) }, func(s step) {
		// No step leads from a station to itself, so these are two maps.
		here, there := ahead[s.from], ahead[s.to]
		for variable := range there {
			if variable != t.sets[s.setter] {
				here[variable] = struct{}{}
			}
		}
	})
	return ahead
}
