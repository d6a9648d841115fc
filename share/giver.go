package share

import (
	"slices"

	"ravel/api"
	"ravel/points"
)

// giver finds the sites that are given: by each KGo some are, and by each of these what one comes to from there.
type giver struct {
	*points.Solver
	outer  map[int][]int // of each literal the variables of functions around that it, or one within it, names
	inside map[int][]int // of each site what can be in its fields, or in its channel
	given  map[int]struct{}
	todo   []int // the given ones of which it is still to be looked what one comes to
}

// read finds what is given in a text's program, or tells what is wrong with the text; then nothing is.
func read(text string) (*giver, api.Fault) {
	solver, fault := points.Read(text)
	g := &giver{
		Solver: solver,
		outer:  map[int][]int{},
		inside: map[int][]int{},
		given:  map[int]struct{}{},
	}
	g.lookOut()
	// What is sent to a KMake is among what can be in its channel: so a send needs no rule of its own.
	for _, h := range g.Held() {
		g.inside[h.Site] = append(g.inside[h.Site], h.Set...)
	}
	g.start()
	g.settle()
	return g, fault
}

// lookOut finds which variables literals have from around: those of each name that stands in a literal within the variable's function.
func (g *giver) lookOut() {
	for name, variable := range g.Uses {
		if variable < 0 || g.Nodes[variable].Kind == api.KFunc {
			continue
		}
		for literal := g.Around(name); literal != g.Around(variable); literal = g.Around(literal) {
			if !slices.Contains(g.outer[literal], variable) {
				g.outer[literal] = append(g.outer[literal], variable)
			}
		}
	}
}

// start gives what is called by a KGo, and its values.
func (g *giver) start() {
	for _, n := range g.Nodes {
		if n.Kind != api.KGo {
			continue
		}
		for _, part := range g.Nodes[n.Kids[0]].Kids {
			g.give(g.Sites(part))
		}
	}
}

// settle gives what one comes to from given sites, until nothing comes any more.
func (g *giver) settle() {
	for len(g.todo) > 0 {
		site := g.todo[len(g.todo)-1]
		g.todo = g.todo[:len(g.todo)-1]
		g.handOn(site)
	}
}

// handOn gives what one comes to from a site.
func (g *giver) handOn(site int) {
	switch n := g.Nodes[site]; n.Kind {
	case api.KLit:
		for _, variable := range g.outer[site] {
			g.give(g.Sites(variable))
		}
	case api.KDot:
		g.give(g.Sites(n.Kids[0]))
	case api.KNew, api.KMake:
		g.give(g.inside[site])
	}
}

// give lays sites to those that are given.
func (g *giver) give(sites []int) {
	for _, site := range sites {
		if _, is := g.given[site]; !is {
			g.given[site] = struct{}{}
			g.todo = append(g.todo, site)
		}
	}
}
