package small

import (
	"nurserypy/rules"
	"nurserypy/tree"
)

// A result is what a term comes to, whatever the run.
type result struct {
	sure   bool // the term is of ints, bools, strs and None alone
	raises bool
	value  any // nil (None), a bool, an int64 or a string
}

// of: the result of a term that is sure, as package rules tells it.
func of(value any, wrong string) result {
	return result{sure: true, raises: wrong != "", value: value}
}

// folded: a term whose parts were folded first, and its result. A part that stays as it is has a result, too: so what
// is made of it may be folded nevertheless.
func folded(e tree.Expr) (tree.Expr, result) {
	var parts []result
	out := tree.Expr{Op: e.Op, N: e.N, S: e.S, P: names(e.P)}
	out.L = terms(e.L, func(e tree.Expr) tree.Expr {
		part, r := folded(e)
		parts = append(parts, r)
		return part
	})
	r := resultOf(e, parts)
	if short, ok := r.written(); ok {
		return short, r
	}
	return out, r
}

func resultOf(e tree.Expr, parts []result) result {
	switch e.Op {
	case "int":
		return of(e.N, "")
	case "str":
		return of(e.S, rules.Fits(len(e.S))) // one that is too long may stand in a program, but raises
	case "None":
		return of(nil, "")
	case "True", "False":
		return of(e.Op == "True", "")
	case "neg", "not", "and", "or", "+", "-", "*", "//", "%", "==", "!=", "<", "<=", ">", ">=", "is":
		return operated(e.Op, parts)
	}
	return result{}
}

// operated: what an operator makes of its parts, from left to right.
func operated(op string, parts []result) result {
	for _, part := range parts {
		if !part.sure {
			return result{}
		}
	}
	left := parts[0]
	if left.raises {
		return left
	}
	switch op {
	case "neg":
		return of(rules.Operate("-", int64(0), left.value))
	case "not":
		return of(!rules.Truth(left.value), "")
	case "and", "or":
		if rules.Truth(left.value) == (op == "or") {
			return left
		}
		return parts[1]
	}
	if parts[1].raises {
		return parts[1]
	}
	return of(rules.Operate(op, left.value, parts[1].value))
}

// written: the shortest term with this result, if there is one. (An int below 0 has none without an operator.)
func (r result) written() (tree.Expr, bool) {
	if !r.sure || r.raises {
		return tree.Expr{}, false
	}
	switch v := r.value.(type) {
	case int64:
		return tree.Expr{Op: "int", N: v}, v >= 0
	case string:
		return tree.Expr{Op: "str", S: v}, true
	}
	return tree.Expr{Op: rules.Repr(r.value)}, true
}
