// Package turns lets the threads of a run do their marks, one at a time, as a script picks them: see doc/05-run.md, E5 to E7. Whose threads these are, it does not know: so programs and their code take turns alike.
package turns

import "ravel/api"

// Threads are those of a run, numbered from 0 on as they begin.
type Threads interface {
	// Begin begins the next thread, which waits until it is let; first is what it does.
	Begin(first any)
	// GoOn lets a thread go on up to its next mark. If the run ends ahead of that, it gives up with an End.
	GoOn(thread int, a Answer) Mark
	// Number answers a value's number as events tell it.
	Number(held any) int
}

// End is how a run ends, and where: whoever comes to it gives up with it by panic.
type End struct {
	Status, At int
}

// Pick is what was picked among several: its place, and how many there were.
type Pick struct {
	Place, Many int
}

// Act is an event, and what it has to do with.
type Act struct {
	api.Event
	Channel *Channel // what is sent on, received from, shut
	Met     bool     // sent to a thread that is met, or received from it
	Other   int      // the one that is met
	Nothing bool     // received where nothing is left
}

// Run lets threads take turns up to the run's end; first is what thread 0 does. It answers what came of it, and what was picked, in order, wherever there were at least two. Each act is told to saw, unless that is nil.
func Run(threads Threads, first any, script []int, saw func(Act)) (api.Trace, []Pick) {
	h := host{threads: threads, script: script, saw: saw}
	h.run(first)
	return h.trace, h.picks
}
