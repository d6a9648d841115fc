package run

// value is an int64, a bool, a *thing, a *turns.Channel, a *function, or nil.
type value any

// variable has a value, which can be another one later.
type variable struct {
	held   value
	number int // in the journal; 0: it did not come up yet
}

// scope is a variable, that of a KDefine, a KCaseRecv or a param, and those that were there ahead of it. It is never put elsewhere, so who has it uses just these, whatever is made later.
type scope struct {
	variable
	of    int
	outer *scope
}

// with answers these variables and one more.
func (s *scope) with(of int, held value) *scope {
	return &scope{variable: variable{held: held}, of: of, outer: s}
}

// find answers the variable of a node; in a program that may be, it is there.
func (s *scope) find(of int) *variable {
	for s.of != of {
		s = s.outer
	}
	return &s.variable
}

// thing is what `new` makes.
type thing struct {
	owner  string // the struct's name
	fields []variable
}

// function is what a literal, a function's name, or a method with what stands ahead of its `.` makes.
type function struct {
	node  int
	scope *scope  // of a literal: what it uses
	ahead []value // of a method: what stands ahead of its `.`
}
