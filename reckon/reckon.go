// Package reckon does what operators do with numbers: see doc/05-run.md. So all who run programs, or tell of them, reckon alike.
package reckon

// Signs answers the operators that Two knows, in the order in which code numbers them.
func Signs() []string {
	return []string{"+", "-", "*", "/", "%", "<", "<=", ">", ">=", "==", "!="}
}

// Two answers what an operator makes of two numbers, of which truth values are 1 and 0; and whether it makes anything: by 0 nothing is divided. `&&` and `||` are none of these.
func Two(sign string, left, right int64) (int64, bool) {
	switch sign {
	case "+":
		return left + right, true
	case "-":
		return left - right, true
	case "*":
		return left * right, true
	case "/", "%":
		return divide(sign, left, right)
	}
	return Truth(held(sign, left, right)), true
}

// divide rounds to 0; the least number over -1 is itself.
func divide(sign string, left, right int64) (int64, bool) {
	switch {
	case right == 0:
		return 0, false
	case sign == "/":
		return left / right, true
	}
	return left % right, true
}

// held holds two numbers against each other.
func held(sign string, left, right int64) bool {
	switch sign {
	case "<":
		return left < right
	case "<=":
		return left <= right
	case ">":
		return left > right
	case ">=":
		return left >= right
	case "==":
		return left == right
	}
	return left != right
}

// Truth answers the number of a truth value.
func Truth(is bool) int64 {
	if is {
		return 1
	}
	return 0
}
