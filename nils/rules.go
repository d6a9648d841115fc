package nils

import (
	"slices"

	"ravel/api"
	"ravel/flow"
)

// rule lays down what a node says of nil. At a KFunc it never is: so the name of one needs no rule of its own. In the fields of a KNew it is from the beginning on: so what is assigned to these needs none either.
func (f *finder) rule(number int) {
	n := f.Nodes[number]
	switch n.Kind {
	case api.KNil:
		f.put(at(number))
	case api.KNew:
		f.fill(number)
	case api.KClose:
		f.each(n.Kids[0], func(site int) { f.put(inChannel(site)) })
	case api.KName:
		f.lead(at(f.Uses[number]), at(number))
	case api.KDefine:
		f.lead(at(n.Kids[0]), at(number))
	case api.KAssign:
		if left := n.Kids[0]; f.Nodes[left].Kind == api.KName {
			f.lead(at(n.Kids[1]), at(f.Uses[left]))
		}
	case api.KDot:
		if f.isOfField(number) {
			f.each(n.Kids[0], func(site int) { f.lead(inField(site, n.Text), at(number)) })
		}
	case api.KRecv, api.KCaseRecv:
		f.each(n.Kids[0], func(site int) { f.lead(inChannel(site), at(number)) })
	case api.KSend, api.KCaseSend:
		f.each(n.Kids[0], func(site int) { f.lead(at(n.Kids[1]), inChannel(site)) })
	case api.KReturn:
		if len(n.Kids) > 0 {
			f.lead(at(n.Kids[0]), at(f.sig(f.Around(number))))
		}
	case api.KCall:
		f.each(n.Kids[0], f.own)
	}
}

// sig answers the number of a function's, method's or literal's KSig.
func (f *finder) sig(function int) int {
	kids := f.Nodes[function].Kids
	return kids[len(kids)-2]
}

// isOfField tells whether a KDot is of a field.
func (f *finder) isOfField(dot int) bool {
	n := f.Nodes[dot]
	return f.Field(f.Texts[n.Kids[0]], n.Text) >= 0
}

// fill puts nil into the fields of a KNew: they are zero at first.
func (f *finder) fill(site int) {
	name := f.Nodes[site].Text
	decl := slices.IndexFunc(f.Nodes, func(n api.Node) bool { return n.Kind == api.KStruct && n.Text == name })
	for _, number := range f.Nodes[decl].Kids {
		if field := f.Nodes[number]; isOfThings(f.Texts[field.Kids[0]]) {
			f.put(inField(site, field.Text))
		}
	}
}

// own hands over to a method that is called by the KDot of a site what stands ahead of its `.`. An interface's method is had of nil by nobody: there the run falls.
func (f *finder) own(site int) {
	n := f.Nodes[site]
	if n.Kind != api.KDot || f.IsIface(f.Texts[n.Kids[0]]) {
		return
	}
	method := f.Around(f.Method(f.Texts[n.Kids[0]], n.Text))
	f.lead(at(n.Kids[0]), at(f.Nodes[method].Kids[0]))
}

// join hands values over from calls to the functions that they can call, and what comes back.
func (f *finder) join() {
	for _, pair := range f.Calls() {
		number, sig := pair[0], f.sig(pair[1])
		for i, value := range f.Nodes[number].Kids[1:] {
			f.lead(at(value), at(f.Nodes[sig].Kids[i]))
		}
		f.lead(at(sig), at(number))
	}
}

// leave puts nil where functions end that one can leave without KReturn: the zero value comes back then.
func (f *finder) leave() {
	program := flow.Look(f.Program)
	for _, edge := range program.Edges {
		from, to := edge[0], edge[1]
		if f.Nodes[to].Kind == api.KSig && f.Nodes[from].Kind != api.KReturn && program.Reached[from] == 1 {
			f.put(at(to))
		}
	}
}
