package code

import "ravel/api"

// spare stands for a variable of which no node is.
const spare = -1

// frame has the variables of a function, by the nodes that they are of.
type frame struct {
	params int
	takes  []int       // those of functions around it
	slots  map[int]int // of all of them
}

// slot answers the slot of a variable, which is the next one, if it has none so far.
func (f *frame) slot(variable int) int {
	slot, is := f.slots[variable]
	if !is {
		slot = len(f.slots)
		f.slots[variable] = slot
	}
	return slot
}

// layOut gives all variables their slots: params first, then what literals take, then all others.
func (m *maker) layOut() {
	for _, function := range m.fns {
		m.frames[function] = &frame{slots: map[int]int{}}
	}
	for number, n := range m.Nodes {
		if f := m.around(number); n.Kind == api.KParam && f != nil {
			f.slot(number)
			f.params++
		}
	}
	for number, n := range m.Nodes {
		if n.Kind == api.KName && m.isVariable(number) {
			m.take(number)
		}
	}
	for number, n := range m.Nodes {
		if n.Kind == api.KDefine || n.Kind == api.KCaseRecv && n.Text != "" {
			m.around(number).slot(number)
		}
	}
}

// around answers the frame of the function around a node; nil, if there is none.
func (m *maker) around(number int) *frame {
	return m.frames[m.functions[number]]
}

// isVariable tells whether a KName is that of a variable.
func (m *maker) isVariable(number int) bool {
	return m.Nodes[m.Uses[number]].Kind != api.KFunc
}

// take lets all literals between a KName and the function of its variable take this one.
func (m *maker) take(number int) {
	variable := m.Uses[number]
	for at := number; m.functions[at] != m.functions[variable]; at = m.functions[at] {
		f := m.around(at)
		if _, is := f.slots[variable]; !is {
			f.slot(variable)
			f.takes = append(f.takes, variable)
		}
	}
}
