package rules

import "math"

// Number that an operator makes of two ints. Operators have the names that trees give them, or those of ops.
func Number(operator string, x, y int64) (n int64, wrong string) {
	switch operator {
	case "+", "add":
		return checked(x+y, (x < 0) == (y < 0) && (x < 0) != (x+y < 0))
	case "-", "sub":
		return checked(x-y, (x < 0) != (y < 0) && (x < 0) != (x-y < 0))
	case "*", "mul":
		return checked(x*y, !multiplies(x, y))
	}
	if y == 0 {
		return 0, ZeroError
	}
	quotient, rest := x/y, x%y
	if rest != 0 && (rest < 0) != (y < 0) {
		quotient--
		rest += y
	}
	if operator == "%" || operator == "mod" {
		return rest, ""
	}
	return checked(quotient, x == math.MinInt64 && y == -1)
}

// checked: an int, if it is one: what is beyond 64 bits is none.
func checked(n int64, beyond bool) (int64, string) {
	if beyond {
		return 0, OverflowError
	}
	return n, ""
}

// multiplies: whether the product of two ints is one.
func multiplies(x, y int64) bool {
	if x == 0 || y == 0 {
		return true
	}
	if x == -1 || y == -1 {
		return x != math.MinInt64 && y != math.MinInt64
	}
	return x*y/y == x
}
