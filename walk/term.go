package walk

import (
	"slices"

	"nurserypy/rules"
)

func (w *walker) term(e *expr, f *frame) any {
	switch e.Op {
	case "int":
		return e.N
	case "str":
		ask(rules.Fits(len(e.S)))
		return e.S
	case "None":
		return nil
	case "True", "False":
		return e.Op == "True"
	case "name":
		return w.value(e.S, f)
	case "lambda":
		return f.function(e.makes)
	case "call", "list", "dict":
		return w.gathered(e.Op, w.terms(e.parts, f))
	}
	return w.operator(e, f)
}

func (w *walker) terms(l []expr, f *frame) []any {
	out := make([]any, len(l))
	for n := range l {
		out[n] = w.term(&l[n], f)
	}
	return out
}

// gathered: what a term makes of as many parts as there are.
func (w *walker) gathered(op string, parts []any) any {
	switch op {
	case "call":
		return w.call(parts[0], parts[1:])
	case "list":
		return &list{items: parts}
	}
	out := &dict{}
	for n := 0; n < len(parts); n += 2 {
		out.put(parts[n], parts[n+1])
	}
	return out
}

// operator: what a term makes of one part, or of two.
func (w *walker) operator(e *expr, f *frame) any {
	left := w.term(&e.parts[0], f)
	switch e.Op {
	case "neg":
		return sure(rules.Number("-", 0, as[int64](left)))
	case "not":
		return !truth(left)
	case "and", "or":
		if truth(left) == (e.Op == "or") {
			return left
		}
		return w.term(&e.parts[1], f)
	}
	return operate(e.Op, left, w.term(&e.parts[1], f))
}

func operate(op string, left, right any) any {
	switch op {
	case "index":
		return index(left, right)
	case "+":
		if x, y, ok := rules.Both[*list](left, right); ok {
			return joint(x, y)
		}
	case "==":
		return equal(left, right)
	case "!=":
		return !equal(left, right)
	case "is":
		return same(left, right)
	case "in":
		return contains(right, left)
	}
	return sure(rules.Operate(op, left, right))
}

// joint: a new list of the elements of two.
func joint(x, y *list) *list {
	ask(rules.Fits(len(x.items) + len(y.items)))
	return &list{items: slices.Concat(x.items, y.items)}
}

func index(thing, at any) any {
	switch x := thing.(type) {
	case *list:
		return x.items[place(at, len(x.items))]
	case *dict:
		return x.values[x.must(at)]
	case string:
		n := place(at, len(x))
		return x[n : n+1]
	}
	panic(raised{rules.TypeError})
}

func put(thing, at, v any) {
	switch x := thing.(type) {
	case *list:
		x.items[place(at, len(x.items))] = v
	case *dict:
		x.put(at, v)
	default:
		panic(raised{rules.TypeError})
	}
}

func remove(thing, at any) {
	switch x := thing.(type) {
	case *list:
		n := place(at, len(x.items))
		x.items = slices.Delete(x.items, n, n+1)
	case *dict:
		x.remove(at)
	default:
		panic(raised{rules.TypeError})
	}
}
