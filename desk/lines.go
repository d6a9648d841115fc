package desk

import (
	"slices"
	"strconv"
	"strings"
)

// greatest is the greatest number that can stand in a line: longer ones are none.
const greatest = 999999999

// read answers the question that a line asks, and the numbers that it asks it with.
func read(line string) (question, []int, error) {
	words := strings.Split(line, " ")
	all := questions()
	place := slices.IndexFunc(all, func(q question) bool { return q.word == words[0] })
	if place < 0 {
		return question{}, nil, errNone
	}
	var numbers []int
	for _, word := range words[1:] {
		num, err := number(word)
		if err != nil {
			return question{}, nil, err
		}
		numbers = append(numbers, num)
	}
	if !all[place].takes(len(numbers)) {
		return question{}, nil, errNone
	}
	return all[place], numbers, nil
}

// number answers what a word says, if it is as the number would be written.
func number(word string) (int, error) {
	num, err := strconv.Atoi(word)
	if err != nil || num < -greatest || num > greatest || strconv.Itoa(num) != word {
		return 0, errNone
	}
	return num, nil
}
