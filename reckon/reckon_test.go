package reckon

import (
	"math"
	"slices"
	"testing"
)

// TestTwo: E1, E3: what operators make of numbers.
func TestTwo(t *testing.T) {
	for _, x := range []struct {
		sign              string
		left, right, want int64
	}{
		{"+", 2, 3, 5}, {"-", 2, 3, -1}, {"*", -2, 3, -6},
		// Numbers go round.
		{"+", math.MaxInt64, 1, math.MinInt64}, {"-", math.MinInt64, 1, math.MaxInt64}, {"*", math.MinInt64, -1, math.MinInt64}, {"*", 1 << 32, 1 << 31, math.MinInt64},
		// Both round to 0; the least number over -1 is itself.
		{"/", 7, 2, 3}, {"/", -7, 2, -3}, {"/", 7, -2, -3}, {"/", 0, 5, 0}, {"/", math.MinInt64, -1, math.MinInt64},
		{"%", 7, 2, 1}, {"%", -7, 2, -1}, {"%", 7, -2, 1}, {"%", math.MinInt64, -1, 0},
		{"<", 1, 2, 1}, {"<", 2, 2, 0}, {"<", 3, 2, 0}, {"<=", 1, 2, 1}, {"<=", 2, 2, 1}, {"<=", 3, 2, 0},
		{">", 1, 2, 0}, {">", 2, 2, 0}, {">", 3, 2, 1}, {">=", 1, 2, 0}, {">=", 2, 2, 1}, {">=", 3, 2, 1},
		{"==", 1, 2, 0}, {"==", 2, 2, 1}, {"!=", 1, 2, 1}, {"!=", 2, 2, 0},
	} {
		if got, is := Two(x.sign, x.left, x.right); got != x.want || !is {
			t.Errorf("%d %s %d: %d, %v", x.left, x.sign, x.right, got, is)
		}
	}
	for _, sign := range []string{"/", "%"} {
		for _, left := range []int64{0, 1, math.MinInt64} {
			if got, is := Two(sign, left, 0); got != 0 || is {
				t.Errorf("%d %s 0: %d, %v", left, sign, got, is)
			}
		}
	}
}

// TestSigns: Q1: code numbers operators in this order; each of them makes something of two numbers.
func TestSigns(t *testing.T) {
	var made []int64
	for _, sign := range Signs() {
		number, _ := Two(sign, 7, 4)
		made = append(made, number)
	}
	if !slices.Equal(made, []int64{11, 3, 28, 1, 3, 0, 0, 1, 1, 0, 1}) {
		t.Error(Signs(), made)
	}
}
