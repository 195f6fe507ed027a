package machine

import (
	"slices"
	"strconv"
	"strings"

	"nurserypy/api"
	"nurserypy/code"
	"nurserypy/lex"
)

type list struct {
	items []any
	id    int
}

// A dict's keys and values have the same numbers.
type dict struct {
	keys, values []any
	id           int
}

type function struct {
	code.Func
	frees []*slot
	id    int
}

type builtin string

// An inside is what iter makes.
type inside struct {
	next func() (any, bool)
}

func fits(n int) {
	if n > api.MaxLength {
		raise("Overflow")
	}
}

func truth(v any) bool {
	switch x := v.(type) {
	case nil:
		return false
	case bool:
		return x
	case int64:
		return x != 0
	case string:
		return x != ""
	case *list:
		return len(x.items) > 0
	case *dict:
		return len(x.keys) > 0
	}
	return true
}

// find a key; -1: it is not there.
func (d *dict) find(key any) int {
	switch key.(type) {
	case nil, bool, int64, string:
		return slices.Index(d.keys, key)
	}
	raise("Type")
	return 0
}

func (d *dict) must(key any) int {
	n := d.find(key)
	if n < 0 {
		raise("Key")
	}
	return n
}

func (d *dict) put(key, v any) {
	n := d.find(key)
	if n < 0 {
		fits(len(d.keys) + 1)
		d.keys, d.values = append(d.keys, key), append(d.values, v)
		return
	}
	d.values[n] = v
}

func str(v any) string {
	if s, ok := v.(string); ok {
		return s
	}
	return repr(v, 1)
}

func repr(v any, deep int) string {
	out := ""
	switch x := v.(type) {
	case nil:
		out = "None"
	case bool:
		out = "False"
		if x {
			out = "True"
		}
	case int64:
		out = strconv.FormatInt(x, 10)
	case string:
		out = lex.Quote(x)
	case *list:
		out = "[" + inner(len(x.items), deep, func(n int) string { return repr(x.items[n], deep+1) }) + "]"
	case *dict:
		pair := func(n int) string { return repr(x.keys[n], deep+1) + ": " + repr(x.values[n], deep+1) }
		out = "{" + inner(len(x.keys), deep, pair) + "}"
	case *function:
		out = "<function " + x.Name + ">"
	case builtin:
		out = "<builtin " + string(x) + ">"
	case *inside:
		out = "<inside>"
	}
	fits(len(out))
	return out
}

// inner: what stands within the brackets of a list or dict.
func inner(count, deep int, part func(int) string) string {
	if deep > api.MaxNest {
		raise("Recursion")
	}
	var parts []string
	for n := range count {
		parts = append(parts, part(n))
		fits(len(strings.Join(parts, ", ")))
	}
	return strings.Join(parts, ", ")
}

// equal: deep is how many lists and dicts are around.
func equal(a, b any, deep int) bool {
	switch x := a.(type) {
	case *list:
		y, ok := b.(*list)
		if !ok {
			return false
		}
		if deep == api.MaxNest {
			raise("Recursion")
		}
		return slices.EqualFunc(x.items, y.items, func(v, w any) bool { return equal(v, w, deep+1) })
	case *dict:
		y, ok := b.(*dict)
		return ok && x.equal(y, deep)
	}
	return a == b
}

func (d *dict) equal(e *dict, deep int) bool {
	if deep == api.MaxNest {
		raise("Recursion")
	}
	if len(d.keys) != len(e.keys) {
		return false
	}
	for n, key := range d.keys {
		at := e.find(key)
		if at < 0 || !equal(d.values[n], e.values[at], deep+1) {
			return false
		}
	}
	return true
}

// same: lists and dicts are compared by themselves.
func same(a, b any) bool {
	switch a.(type) {
	case *list, *dict:
		return a == b
	}
	return equal(a, b, 0)
}
