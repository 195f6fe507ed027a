package walk

import "math"

// number: what an operator makes of two ints.
func number(op string, x, y int64) int64 {
	switch op {
	case "+":
		return checked(x+y, (x < 0) == (y < 0) && (x < 0) != (x+y < 0))
	case "-":
		return checked(x-y, (x < 0) != (y < 0) && (x < 0) != (x-y < 0))
	case "*":
		return checked(x*y, !multiplies(x, y))
	}
	if y == 0 {
		panic(raised{zeroError})
	}
	quotient, rest := x/y, x%y
	if rest != 0 && (rest < 0) != (y < 0) {
		quotient--
		rest += y
	}
	if op == "%" {
		return rest
	}
	return checked(quotient, x == math.MinInt64 && y == -1)
}

// checked: an int, if it is one: what is beyond 64 bits is none.
func checked(n int64, beyond bool) int64 {
	if beyond {
		panic(raised{overflowError})
	}
	return n
}

// multiplies: whether the product of two ints is one.
func multiplies(x, y int64) bool {
	if x == 0 || y == 0 {
		return true
	}
	if x == -1 || y == -1 {
		return x != math.MinInt64 && y != math.MinInt64
	}
	return x*y/y == x
}
