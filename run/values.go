package run

import "math/bits"

// value is an int64, a bool, a *thing, a *channel, a *function, or nil.
type value any

// variable has a value, which can be another one later.
type variable struct {
	held   value
	number int // in the journal; 0: it did not come up yet
}

// scope is a variable, that of a KDefine, a KCaseRecv or a param, and those that were there ahead of it. It is never put elsewhere, so who has it uses just these, whatever is made later.
type scope struct {
	variable
	of    int
	outer *scope
}

// with answers these variables and one more.
func (s *scope) with(of int, held value) *scope {
	return &scope{variable: variable{held: held}, of: of, outer: s}
}

// find answers the variable of a node; in a program that may be, it is there.
func (s *scope) find(of int) *variable {
	for s.of != of {
		s = s.outer
	}
	return &s.variable
}

// thing is what `new` makes.
type thing struct {
	owner  string // the struct's name
	fields []variable
}

// channel is what `make` makes.
type channel struct {
	room    int
	zero    value
	held    []value
	closed  bool
	senders crowd // who stands to send on it
	takers  crowd // who stands to receive from it
	number  int   // in the journal; 0: it did not come up yet
}

// crowd has threads: the bits of their numbers.
type crowd uint

// least answers the least number of those that are there, but for one; or -1.
func (c crowd) least(but int) int {
	if others := c &^ (1 << but); others != 0 {
		return bits.TrailingZeros(uint(others))
	}
	return -1
}

// function is what a literal, a function's name, or a method with what stands ahead of its `.` makes.
type function struct {
	node  int
	scope *scope  // of a literal: what it uses
	ahead []value // of a method: what stands ahead of its `.`
}

// told answers a value's number as events tell it.
func told(v value) int {
	if number, is := v.(int64); is {
		return int(number)
	}
	if v == true {
		return 1
	}
	return 0
}
