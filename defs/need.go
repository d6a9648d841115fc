package defs

import (
	"slices"

	"ravel/api"
	"ravel/check"
)

// variables are those that are needed somewhere.
type variables map[int]struct{}

func (v variables) has(variable int) bool {
	_, is := v[variable]
	return is
}

// need answers of each station the variables that are needed ahead of it.
func (t *Table) need() []variables {
	ahead := make([]variables, len(t.Nodes))
	for number := range ahead {
		ahead[number] = variables{}
	}
	for name, variable := range t.Reads {
		if variable >= 0 {
			ahead[t.stations[name]][variable] = struct{}{}
		}
	}
	backward := slices.Clone(t.Steps)
	slices.Reverse(backward)
	settle(backward, func(s Step) int { return len(ahead[s.To]) }, func(s Step) {
		// No step leads from a station to itself, so these are two maps.
		here, there := ahead[s.From], ahead[s.To]
		for variable := range there {
			if !t.isSet(s, variable) {
				here[variable] = struct{}{}
			}
		}
	})
	return ahead
}

// isSet tells whether a variable is set when one goes along a step. Params are set where the function begins, and from there one comes just to who reads its own ones.
func (t *Table) isSet(s Step, variable int) bool {
	begins := check.IsFunction(t.Nodes[s.From].Kind) && t.Nodes[variable].Kind == api.KParam
	return begins || variable == t.Sets[s.Setter]
}
