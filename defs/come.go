package defs

import (
	"maps"
	"slices"

	"ravel/api"
)

// setting is a variable, and a node at which it is set.
type setting struct {
	variable, node int
}

// settings are those that can have been the last ones of their variables.
type settings map[setting]struct{}

// put lays a setting there: those of its variable up to now are not the last ones any more.
func (s settings) put(now setting) {
	for other := range s {
		if other.variable == now.variable {
			delete(s, other)
		}
	}
	s[now] = struct{}{}
}

// of answers the nodes at which a variable is set, rising.
func (s settings) of(variable int) []int {
	var out []int
	for one := range s {
		if one.variable == variable {
			out = append(out, one.node)
		}
	}
	slices.Sort(out)
	return out
}

// come answers of each station the settings ahead of it.
func (t *table) come() []settings {
	ahead := make([]settings, len(t.Nodes))
	for number := range ahead {
		ahead[number] = settings{}
	}
	for number, n := range t.Nodes {
		// What is handed over is there when the function begins. A param of an interface's method is of no function.
		if function := t.functions[number]; n.Kind == api.KParam && function >= 0 && t.sets[number] >= 0 {
			ahead[function].put(setting{number, number})
		}
	}
	settle(t.steps, func(s step) int { return len(ahead[s.from]) }, func(s step) {
		behind := maps.Clone(ahead[s.from])
		if variable := t.sets[s.setter]; variable >= 0 {
			behind.put(setting{variable, s.setter})
		}
		maps.Copy(ahead[s.to], behind)
	})
	return ahead
}
