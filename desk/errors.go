package desk

import (
	"errors"
	"strconv"

	"ravel/api"
)

var (
	errNone = errors.New("there is no such question, or node")
	errFull = errors.New("there is too much of it")
)

// faulty tells that a program may not be.
type faulty struct {
	api.Fault
}

func (f faulty) Error() string {
	return "fault " + strconv.Itoa(int(f.Code)) + " " + strconv.Itoa(f.At)
}

// refusal answers what is told instead of an answer.
func refusal(err error) string {
	var wrong faulty
	switch {
	case errors.As(err, &wrong):
		return wrong.Error()
	case errors.Is(err, errFull):
		return "full"
	}
	return "?"
}
