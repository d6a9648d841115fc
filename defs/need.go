package defs

import (
	"slices"

	"ravel/api"
	"ravel/check"
)

// variables are those that are needed somewhere.
type variables map[int]struct{}

func (v variables) has(variable int) bool {
	_, is := v[variable]
	return is
}

// need answers of each station the variables that are needed ahead of it.
func (t *table) need() []variables {
	ahead := make([]variables, len(t.Nodes))
	for number := range ahead {
		ahead[number] = variables{}
	}
	for name, variable := range t.reads {
		if variable >= 0 {
			ahead[t.stations[name]][variable] = struct{}{}
		}
	}
	backward := slices.Clone(t.steps)
	slices.Reverse(backward)
	settle(backward, func(s step) int { return len(ahead[s.to]) }, func(s step) {
		// No step leads from a station to itself, so these are two maps.
		here, there := ahead[s.from], ahead[s.to]
		for variable := range there {
			if !t.isSet(s, variable) {
				here[variable] = struct{}{}
			}
		}
	})
	return ahead
}

// isSet tells whether a variable is set when one goes along a step. Params are set where the function begins, and from there one comes just to who reads its own ones.
func (t *table) isSet(s step, variable int) bool {
	begins := check.IsFunction(t.Nodes[s.from].Kind) && t.Nodes[variable].Kind == api.KParam
	return begins || variable == t.sets[s.setter]
}
