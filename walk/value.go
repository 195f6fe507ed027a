package walk

import "nurserypy/rules"

// A value is nil (None), a bool, an int64, a string, a *list, a *dict, a *function or a builtin.

type list struct {
	items []any
	id    int // 0: nobody asked for it
}

type function struct {
	*recipe
	cells map[string]*cell // those of its free names
	id    int
}

type builtin string // its name

// as: a value of a kind that it must have.
func as[T any](v any) T {
	x, ok := v.(T)
	if !ok {
		panic(raised{rules.TypeError})
	}
	return x
}

func truth(v any) bool {
	switch x := v.(type) {
	case *list:
		return len(x.items) > 0
	case *dict:
		return len(x.keys) > 0
	}
	return rules.Truth(v)
}

func length(v any) int {
	switch x := v.(type) {
	case string:
		return len(x)
	case *list:
		return len(x.items)
	case *dict:
		return len(x.keys)
	}
	panic(raised{rules.TypeError})
}

// place: the place in a list or str of so many that an index tells.
func place(index any, among int) int {
	return sure(rules.Place(as[int64](index), among))
}

func (l *list) push(v any) {
	ask(rules.Fits(len(l.items) + 1))
	l.items = append(l.items, v)
}

func (l *list) pop() any {
	last := len(l.items) - 1
	if last < 0 {
		panic(raised{rules.IndexError})
	}
	v := l.items[last]
	l.items = l.items[:last]
	return v
}
