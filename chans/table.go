package chans

import (
	"ravel/api"
	"ravel/points"
)

// end is something that is done to the channels of a site.
type end struct {
	site, deed int
}

// table has who can do what to which channels.
type table struct {
	*points.Solver
	who map[end][]int // of each end the nodes that can be there, rising
}

// read answers the table of a text's program, or what is wrong with the text; then nothing is in the table.
func read(text string) (table, api.Fault) {
	solver, fault := points.Read(text)
	t := table{Solver: solver, who: map[end][]int{}}
	for number, n := range t.Nodes {
		deed := deedOf(n.Kind)
		if deed == 0 {
			continue
		}
		for _, site := range t.Sites(n.Kids[0]) {
			at := end{site, deed}
			t.who[at] = append(t.who[at], number)
		}
	}
	return t, fault
}

// deedOf answers what a node does to a channel, by the kind of who does it without a select; or 0.
func deedOf(kind int) int {
	switch kind {
	case api.KSend, api.KCaseSend:
		return api.KSend
	case api.KRecv, api.KCaseRecv:
		return api.KRecv
	case api.KClose:
		return api.KClose
	}
	return 0
}

// helps tells whether a channel of a site can let someone send to it, or take from it. A closed one does: who sends to it falls there.
func (t table) helps(site, deed int) bool {
	if len(t.who[end{site, api.KClose}]) > 0 {
		return true
	}
	if deed == api.KRecv {
		return len(t.who[end{site, api.KSend}]) > 0
	}
	return t.Nodes[site].Num > 0 || len(t.who[end{site, api.KRecv}]) > 0
}
