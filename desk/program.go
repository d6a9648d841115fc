package desk

import (
	"sync"

	"ravel/api"
	"ravel/check"
)

// program is what the questions are about.
type program struct {
	text    string
	once    sync.Once
	checked check.Program
	fault   api.Fault
}

// read answers the program, or what is wrong with it. It is checked when it is first needed, and then no more.
func (p *program) read() (check.Program, error) {
	p.once.Do(func() { p.checked, p.fault = check.Read(p.text) })
	if p.fault.Code != api.OK {
		return check.Program{}, faulty{p.fault}
	}
	return p.checked, nil
}
