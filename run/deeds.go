package run

import "ravel/check"

// Doing is what kind of deed something is.
type Doing int

const (
	Reads     Doing = iota // a variable or a field
	Writes                 // likewise
	Begins                 // another thread
	Meets                  // another thread, to which it sends on a channel without room
	Sends                  // on a channel with room
	Takes                  // what was sent on a channel with room
	Shuts                  // a channel
	FindsShut              // receives from a channel that is closed and empty
)

// Deed is something that a thread does to what others have to do with, too.
type Deed struct {
	Doing        Doing
	Thread, Node int
	On           int // the number of the other thread, or of the variable or field, or of the channel: these are numbered as they come up
	Room         int // of the channel
}

// Deeds runs a program that is read already, and answers what was done, in order.
func Deeds(read check.Program, script []int) []Deed {
	h := host{program: program{read}, script: script, journal: &journal{}}
	h.run()
	return h.journal.deeds
}

// journal has what is done in a run. Just one thread goes on at a time, while the host waits for it, so all of them write in the same one.
type journal struct {
	deeds             []Deed
	touched, channels int // that came up
}

// write writes a deed down, if somebody wants to know.
func (j *journal) write(d Deed) {
	if j != nil {
		j.deeds = append(j.deeds, d)
	}
}

// touch writes down that a variable or a field is read or written, and answers it.
func (j *journal) touch(does Doing, thread, node int, v *variable) *variable {
	if j != nil {
		j.write(Deed{Doing: does, Thread: thread, Node: node, On: numbered(&v.number, &j.touched)})
	}
	return v
}

// use writes down what is done to a channel.
func (j *journal) use(does Doing, thread int, a arm) {
	if j != nil {
		c := a.channel
		j.write(Deed{Doing: does, Thread: thread, Node: a.node, On: numbered(&c.number, &j.channels), Room: c.room})
	}
}

// numbered answers a number, which is the next one, where there was none so far.
func numbered(number, last *int) int {
	if *number == 0 {
		*last++
		*number = *last
	}
	return *number
}
