package points

import (
	"cmp"
	"slices"

	"ravel/api"
	"ravel/check"
)

// place is where things can be: at a node, or inside of what it made, in a field or (the name is empty) in a channel.
type place struct {
	node   int
	inside bool
	name   string
}

func at(node int) place {
	return place{node: node}
}

func inField(site int, name string) place {
	return place{node: site, inside: true, name: name}
}

func inChannel(site int) place {
	return place{node: site, inside: true}
}

// set has the sites of the things that can be at a place, and what is to be done with those that come.
type set struct {
	sites sites
	told  sites // those with which all tasks were done
	tasks []func(fresh sites)
	waits bool // it has grown, and its tasks are not done yet
}

// call is a KCall, and a function, method or literal that it can call.
type call struct {
	node, function int
}

// Solver finds the least sets: a site comes to a place just where a rule puts it there.
type Solver struct {
	check.Program
	functions []int // of each node the function, method or literal around it, or -1
	sets      map[place]*set
	grown     []*set // those that wait
	calls     map[call]struct{}
}

// Read answers what can be where in a text's program, or what is wrong with the text; then the solver is zero. So who goes on from there solves a text once.
func Read(text string) (*Solver, api.Fault) {
	program, fault := check.Read(text)
	if fault.Code != api.OK {
		return &Solver{}, fault
	}
	return Look(program), api.Fault{}
}

// Look answers what can be where in a program that is read already.
func Look(program check.Program) *Solver {
	s := &Solver{
		Program:   program,
		functions: program.Functions(),
		sets:      map[place]*set{},
		calls:     map[call]struct{}{},
	}
	for number := range s.Nodes {
		s.rule(number)
	}
	s.settle()
	return s
}

// Sites answers the sites of the things that can be at a node, rising.
func (s *Solver) Sites(node int) []int {
	found, is := s.sets[at(node)]
	if !is {
		return nil
	}
	return found.sites.list()
}

// Calls answers the pairs of a KCall and a function, method or literal that it can call, rising.
func (s *Solver) Calls() [][2]int {
	var out [][2]int
	for joined := range s.calls {
		out = append(out, [2]int{joined.node, joined.function})
	}
	slices.SortFunc(out, func(a, b [2]int) int {
		return cmp.Or(cmp.Compare(a[0], b[0]), cmp.Compare(a[1], b[1]))
	})
	return out
}

// Around answers the function, method or literal around a node, or -1.
func (s *Solver) Around(node int) int {
	return s.functions[node]
}

// settle does the tasks of sets that have grown, until none grows any more. Tasks just let sets wait, so that calls do not get deep, however far things go.
func (s *Solver) settle() {
	for len(s.grown) > 0 {
		round := s.grown
		s.grown = nil
		for _, of := range round {
			fresh := of.sites.without(of.told)
			of.told.join(fresh)
			of.waits = false
			for _, task := range of.tasks {
				task(fresh)
			}
		}
	}
}

// set answers what can be at a place.
func (s *Solver) set(p place) *set {
	found, is := s.sets[p]
	if !is {
		found = &set{sites: noSites(len(s.Nodes)), told: noSites(len(s.Nodes))}
		s.sets[p] = found
	}
	return found
}

// put lays a site into a set.
func (s *Solver) put(site int, to *set) {
	s.wait(to, to.sites.add(site))
}

// wait lets a set wait, if it has grown.
func (s *Solver) wait(of *set, hasGrown bool) {
	if hasGrown && !of.waits {
		of.waits = true
		s.grown = append(s.grown, of)
	}
}

// hear lets a task be done once with each site of a place, also with those that come later: of those that are not told yet it hears with all other tasks.
func (s *Solver) hear(p place, task func(fresh sites)) {
	of := s.set(p)
	of.tasks = append(of.tasks, task)
	task(of.told)
}

// each lets a task be done with each site of a place, one by one.
func (s *Solver) each(p place, task func(site int)) {
	s.hear(p, func(fresh sites) {
		for _, site := range fresh.list() {
			task(site)
		}
	})
}

// within lets all that can be at one place be at another one, too.
func (s *Solver) within(from, to place) {
	target := s.set(to)
	s.hear(from, func(fresh sites) { s.wait(target, target.sites.join(fresh)) })
}
