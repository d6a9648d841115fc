package desk

import (
	"strconv"
	"strings"

	"ravel/api"
)

// join joins what is told of each item of a list.
func join[T any](list []T, between string, tell func(item T) string) string {
	var words []string
	for _, item := range list {
		words = append(words, tell(item))
	}
	return strings.Join(words, between)
}

// row tells numbers, a blank between two.
func row(numbers []int) string {
	return join(numbers, " ", strconv.Itoa)
}

// pairs tells pairs of numbers, a blank between two.
func pairs(list [][2]int, within string) string {
	return join(list, " ", func(pair [2]int) string {
		return strconv.Itoa(pair[0]) + within + strconv.Itoa(pair[1])
	})
}

func orNone(told string) string {
	if told == "" {
		return "none"
	}
	return told
}

// ending tells what a run prints, and how it ends.
func ending(prints []int, status, at int) string {
	end := way(status, at)
	if len(prints) == 0 {
		return end
	}
	return row(prints) + " " + end
}

// way tells how a run ends: where, just if that is at a node.
func way(status, at int) string {
	switch status {
	case api.Done:
		return "done"
	case api.Fell:
		return "fell " + strconv.Itoa(at)
	case api.Stuck:
		return "stuck"
	}
	return "out " + strconv.Itoa(at)
}

// known tells what is known of a value.
func known(value api.Known) string {
	switch value.State {
	case 0:
		return "no"
	case 1:
		return "always " + strconv.Itoa(value.Num)
	}
	return "any"
}
