package rules

import "cmp"

// Operate: what an operator with two parts makes of plain values. Others it does not take, unless it tells whether two
// are the same. (and, or and in are none of its operators.)
func Operate(operator string, left, right any) (v any, wrong string) {
	switch operator {
	case "==", "is":
		return left == right, ""
	case "!=":
		return left != right, ""
	case "<", "<=", ">", ">=":
		return compared(operator, left, right)
	case "+":
		if x, y, ok := Both[string](left, right); ok {
			return x + y, Fits(len(x) + len(y))
		}
	}
	if x, y, ok := Both[int64](left, right); ok {
		return Number(operator, x, y)
	}
	return nil, TypeError
}

func compared(operator string, left, right any) (is bool, wrong string) {
	order, wrong := Order(left, right)
	switch operator {
	case "<":
		return order < 0, wrong
	case "<=":
		return order <= 0, wrong
	case ">":
		return order > 0, wrong
	}
	return order >= 0, wrong
}

// Order: below 0, 0 or above it, as the left one is less, equal or more.
func Order(left, right any) (order int, wrong string) {
	if x, y, ok := Both[int64](left, right); ok {
		return cmp.Compare(x, y), ""
	}
	if x, y, ok := Both[string](left, right); ok {
		return cmp.Compare(x, y), ""
	}
	return 0, TypeError
}

// Both: two values, if they have this kind, both of them.
func Both[T any](v, w any) (x, y T, ok bool) {
	x, first := v.(T)
	y, second := w.(T)
	return x, y, first && second
}
