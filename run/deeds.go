package run

import (
	"ravel/api"
	"ravel/check"
	"ravel/turns"
)

// Doing is what kind of deed something is.
type Doing int

const (
	Reads     Doing = iota // a variable or a field
	Writes                 // likewise
	Begins                 // another thread
	Meets                  // another thread, to which it sends on a channel without room
	Sends                  // on a channel with room
	Takes                  // what was sent on a channel with room
	Shuts                  // a channel
	FindsShut              // receives from a channel that is closed and empty
)

// Deed is something that a thread does to what others have to do with, too.
type Deed struct {
	Doing        Doing
	Thread, Node int
	On           int // the number of the other thread, or of the variable or field, or of the channel: these are numbered as they come up
	Room         int // of the channel
}

// Deeds runs a program that is read already, and answers what was done, in order.
func Deeds(read check.Program, script []int) []Deed {
	h := host{program: program{read}, journal: &journal{}}
	h.run(script)
	return h.journal.deeds
}

// journal has what is done in a run. Just one thread goes on at a time, while the host waits for it, so all of them write in the same one.
type journal struct {
	deeds             []Deed
	touched, channels int // that came up
}

// touch writes down that a variable or a field is read or written, if somebody wants to know, and answers it.
func (j *journal) touch(does Doing, thread, node int, v *variable) *variable {
	if j == nil {
		return v
	}
	j.deeds = append(j.deeds, Deed{Doing: does, Thread: thread, Node: node, On: numbered(&v.number, &j.touched)})
	return v
}

// see writes down what a thread does at its mark, if somebody wants to know.
func (j *journal) see(a turns.Act) {
	if j == nil {
		return
	}
	d := Deed{Thread: a.Thread, Node: a.Node}
	switch {
	case a.Kind == api.EvGo:
		d.Doing, d.On = Begins, a.Num
	case a.Kind == api.EvSend && a.Met:
		d.Doing, d.On = Meets, a.Other
	case a.Met || a.Channel == nil:
		// Who receives is told of by who sends; what is left concerns no other thread.
		return
	default:
		d.Doing, d.On, d.Room = usage(a), numbered(&a.Channel.Number, &j.channels), a.Channel.Room
	}
	j.deeds = append(j.deeds, d)
}

// numbered answers a number, which is the next one, where there was none so far.
func numbered(number, last *int) int {
	if *number == 0 {
		*last++
		*number = *last
	}
	return *number
}

// usage answers what is done to a channel at which nobody is met.
func usage(a turns.Act) Doing {
	switch {
	case a.Kind == api.EvSend:
		return Sends
	case a.Kind == api.EvClose:
		return Shuts
	case a.Nothing:
		return FindsShut
	}
	return Takes
}
