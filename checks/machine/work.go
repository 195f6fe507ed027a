package machine

import (
	"cmp"
	"math"
	"slices"
	"strings"

	"nurserypy/api"
)

// worked: an op that makes at most one value, of as many as its name says.
func worked(f *frame, name string) {
	switch name {
	case "neg":
		f.push(number("sub", 0, as[int64](f.pop())))
	case "not":
		f.push(!truth(f.pop()))
	case "iter":
		f.push(through(f.pop()))
	case "put":
		v := f.pops(3)
		put(v[0], v[1], v[2])
	case "del":
		v := f.pops(2)
		remove(v[0], v[1])
	default:
		v := f.pops(2)
		f.push(operator(name, v[0], v[1]))
	}
}

func operator(name string, a, b any) any {
	switch name {
	case "index":
		return element(a, b)
	case "eq":
		return equal(a, b, 0)
	case "ne":
		return !equal(a, b, 0)
	case "is":
		return same(a, b)
	case "in":
		return within(a, b)
	case "lt":
		return order(a, b) < 0
	case "le":
		return order(a, b) <= 0
	case "gt":
		return order(a, b) > 0
	case "ge":
		return order(a, b) >= 0
	case "add":
		switch x := a.(type) {
		case string:
			y := as[string](b)
			fits(len(x) + len(y))
			return x + y
		case *list:
			y := as[*list](b)
			fits(len(x.items) + len(y.items))
			return &list{items: slices.Concat(x.items, y.items)}
		}
	}
	return number(name, as[int64](a), as[int64](b))
}

// as: a value of this kind; of others TypeError.
func as[T any](v any) T {
	x, ok := v.(T)
	if !ok {
		raise("Type")
	}
	return x
}

func number(name string, a, b int64) int64 {
	switch name {
	case "add":
		check(a > 0 && b > math.MaxInt64-a || a < 0 && b < math.MinInt64-a)
		return a + b
	case "sub":
		check(b < 0 && a > math.MaxInt64+b || b > 0 && a < math.MinInt64+b)
		return a - b
	case "mul":
		check(a == -1 && b == math.MinInt64 || a != 0 && a != -1 && a*b/a != b)
		return a * b
	}
	if b == 0 {
		raise("ZeroDivision")
	}
	rest := a % b
	if rest != 0 && rest < 0 != (b < 0) {
		rest += b
	}
	if name == "mod" {
		return rest
	}
	check(a == math.MinInt64 && b == -1)
	out := a / b
	if a%b != rest {
		out--
	}
	return out
}

func check(beyond bool) {
	if beyond {
		raise("Overflow")
	}
}

func order(a, b any) int {
	if x, ok := a.(string); ok {
		return strings.Compare(x, as[string](b))
	}
	return cmp.Compare(as[int64](a), as[int64](b))
}

func within(a, b any) bool {
	switch x := b.(type) {
	case *list:
		return slices.ContainsFunc(x.items, func(v any) bool { return equal(v, a, 0) })
	case *dict:
		return x.find(a) >= 0
	case string:
		return strings.Contains(x, as[string](a))
	}
	raise("Type")
	return false
}

// place: the number of an element, of as many as there are.
func place(at any, count int) int {
	n := as[int64](at)
	if n < 0 {
		n += int64(count)
	}
	if n < 0 || n >= int64(count) {
		raise("Index")
	}
	return int(n)
}

func element(thing, at any) any {
	switch x := thing.(type) {
	case *list:
		return x.items[place(at, len(x.items))]
	case *dict:
		return x.values[x.must(at)]
	}
	s := as[string](thing)
	n := place(at, len(s))
	return s[n : n+1]
}

func put(thing, at, v any) {
	if x, ok := thing.(*dict); ok {
		x.put(at, v)
		return
	}
	x := as[*list](thing)
	x.items[place(at, len(x.items))] = v
}

func remove(thing, at any) {
	if x, ok := thing.(*dict); ok {
		n := x.must(at)
		x.keys, x.values = slices.Delete(x.keys, n, n+1), slices.Delete(x.values, n, n+1)
		return
	}
	x := as[*list](thing)
	n := place(at, len(x.items))
	x.items = slices.Delete(x.items, n, n+1)
}

// through: what goes through a thing. A list may change on the way.
func through(v any) *inside {
	over := &list{}
	switch x := v.(type) {
	case *list:
		over = x
	case *dict:
		over.items = slices.Clone(x.keys)
	default:
		for _, c := range []byte(as[string](v)) {
			over.items = append(over.items, string([]byte{c}))
		}
	}
	n := 0
	return &inside{next: func() (any, bool) {
		if n >= len(over.items) {
			return nil, false
		}
		n++
		return over.items[n-1], true
	}}
}

func (m *machine) builtin(name builtin, args []any) any {
	want := map[builtin]int{"input": 0, "push": 2, "print": len(args)}
	if n, ok := want[name]; ok && n != len(args) || !ok && len(args) != 1 {
		raise("Type")
	}
	switch name {
	case "len":
		return length(args[0])
	case "str":
		return str(args[0])
	case "push":
		l := as[*list](args[0])
		fits(len(l.items) + 1)
		l.items = append(l.items, args[1])
	case "pop":
		l := as[*list](args[0])
		if len(l.items) == 0 {
			raise("Index")
		}
		v := l.items[len(l.items)-1]
		l.items = l.items[:len(l.items)-1]
		return v
	case "keys":
		return &list{items: slices.Clone(as[*dict](args[0]).keys)}
	case "id":
		return m.id(args[0])
	case "range":
		return counted(as[int64](args[0]))
	case "input":
		return m.line()
	case "print":
		m.print(args)
	case "collect":
		if n := as[int64](args[0]); n != 0 && n != 1 {
			raise("Value")
		}
	}
	return nil
}

func length(v any) int64 {
	switch x := v.(type) {
	case *list:
		return int64(len(x.items))
	case *dict:
		return int64(len(x.keys))
	}
	return int64(len(as[string](v)))
}

func (m *machine) id(v any) int64 {
	var has *int
	switch x := v.(type) {
	case *list:
		has = &x.id
	case *dict:
		has = &x.id
	default:
		has = &as[*function](v).id
	}
	if *has == 0 {
		m.serials++
		*has = m.serials
	}
	return int64(*has)
}

func counted(n int64) *list {
	check(n > api.MaxLength)
	out := &list{}
	for i := range n {
		out.items = append(out.items, i)
	}
	return out
}

func (m *machine) line() string {
	if len(m.input) == 0 {
		raise("Value")
	}
	out := m.input[0]
	m.input = m.input[1:]
	return out
}

func (m *machine) print(args []any) {
	var texts []string
	for _, v := range args {
		texts = append(texts, str(v))
	}
	line := strings.Join(texts, " ") + "\n"
	check(m.output.Len()+len(line) > api.MaxOutput)
	m.output.WriteString(line)
}
