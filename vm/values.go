package vm

import "slices"

// value is an int64, a *thing, a *turns.Channel, or a *function.
type value any

// variable has a value, which can be another one later.
type variable struct {
	held value
}

// thing is a thing of a kind.
type thing struct {
	kind   int
	fields []value // none, until one is put: all are 0 then, and cost nothing, however many there are
}

func (x *thing) get(field int) value {
	if x.fields == nil {
		return int64(0)
	}
	return x.fields[field]
}

// put puts a value into one of so many fields.
func (x *thing) put(field, many int, held value) {
	if x.fields == nil {
		x.fields = slices.Repeat([]value{int64(0)}, many)
	}
	x.fields[field] = held
}

// function is a function of the code, with what it has with it.
type function struct {
	number int
	ahead  []value     // its first values
	took   []*variable // those of the call that made it
}

// number answers a value where a number is asked.
func number(v value) int64 {
	n, _ := v.(int64)
	return n
}
