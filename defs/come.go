package defs

import (
	"maps"
	"slices"

	"ravel/api"
)

// setting is a variable, and a node at which it is set.
type setting struct {
	variable, node int
}

// settings are those that can have been the last ones of their variables.
type settings map[setting]struct{}

// put lays a setting there: those of its variable up to now are not the last ones any more.
func (s settings) put(now setting) {
	for other := range s {
		if other.variable == now.variable {
			delete(s, other)
		}
	}
	s[now] = struct{}{}
}

// of answers the nodes at which a variable is set, rising.
func (s settings) of(variable int) []int {
	var out []int
	for one := range s {
		if one.variable == variable {
			out = append(out, one.node)
		}
	}
	slices.Sort(out)
	return out
}

// come answers of each station the settings ahead of it.
func (t *Table) come() []settings {
	ahead := make([]settings, len(t.Nodes))
	for number := range ahead {
		ahead[number] = settings{}
	}
	for number, n := range t.Nodes {
		// What is handed over is there when the function begins. A param of an interface's method is of no function.
		if function := t.functions[number]; n.Kind == api.KParam && function >= 0 && t.Sets[number] >= 0 {
			ahead[function].put(setting{number, number})
		}
	}
	settle(t.Steps, func(s Step) int { return len(ahead[s.From]) }, func(s Step) {
		behind := maps.Clone(ahead[s.From])
		if variable := t.Sets[s.Setter]; variable >= 0 {
			behind.put(setting{variable, s.Setter})
		}
		maps.Copy(ahead[s.To], behind)
	})
	return ahead
}
