package walk

import "nurserypy/api"

// A value is nil (None), a bool, an int64, a string, a *list, a *dict, a *function or a builtin.

type list struct {
	items []any
	id    int // 0: nobody asked for it
}

type function struct {
	*recipe
	cells map[string]*cell // those of its free names
	id    int
}

type builtin string // its name

// as: a value of a kind that it must have.
func as[T any](v any) T {
	x, ok := v.(T)
	if !ok {
		panic(raised{typeError})
	}
	return x
}

// both: two values, if they have this kind, both of them.
func both[T any](v, w any) (x, y T, ok bool) {
	x, first := v.(T)
	y, second := w.(T)
	return x, y, first && second
}

func truth(v any) bool {
	switch x := v.(type) {
	case nil:
		return false
	case bool:
		return x
	case int64:
		return x != 0
	case string:
		return x != ""
	case *list:
		return len(x.items) > 0
	case *dict:
		return len(x.keys) > 0
	}
	return true
}

func length(v any) int {
	switch x := v.(type) {
	case string:
		return len(x)
	case *list:
		return len(x.items)
	case *dict:
		return len(x.keys)
	}
	panic(raised{typeError})
}

// fits raises if a text, list or dict with so many bytes or elements is too long.
func fits(n int) {
	if n > api.MaxLength {
		panic(raised{overflowError})
	}
}

// place: the place in a list or str of so many that an index tells.
func place(index any, among int) int {
	n := as[int64](index)
	if n < 0 {
		n += int64(among)
	}
	if n < 0 || n >= int64(among) {
		panic(raised{indexError})
	}
	return int(n)
}

func (l *list) push(v any) {
	fits(len(l.items) + 1)
	l.items = append(l.items, v)
}

func (l *list) pop() any {
	last := len(l.items) - 1
	if last < 0 {
		panic(raised{indexError})
	}
	v := l.items[last]
	l.items = l.items[:last]
	return v
}
