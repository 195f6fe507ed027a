package walk

import (
	"strings"

	"nurserypy/rules"
)

// A comparison knows what it found equal so far.
type comparison struct {
	rules.Found[couple]
}

type couple struct {
	left, right any
}

func equal(left, right any) bool {
	var c comparison
	return c.equal(left, right, 1)
}

// equal: lists and dicts are so deep in what is compared.
func (c *comparison) equal(left, right any, deep int) bool {
	if x, y, ok := rules.Both[*list](left, right); ok {
		return sure(c.Equal(couple{x, y}, deep, func() bool { return c.lists(x, y, deep+1) }))
	}
	if x, y, ok := rules.Both[*dict](left, right); ok {
		return sure(c.Equal(couple{x, y}, deep, func() bool { return c.dicts(x, y, deep+1) }))
	}
	return left == right
}

func (c *comparison) lists(left, right *list, deep int) bool {
	if len(left.items) != len(right.items) {
		return false
	}
	for n, v := range left.items {
		if !c.equal(v, right.items[n], deep) {
			return false
		}
	}
	return true
}

func (c *comparison) dicts(left, right *dict, deep int) bool {
	if len(left.keys) != len(right.keys) {
		return false
	}
	for n, key := range left.keys {
		m, ok := right.find(key)
		if !ok || !c.equal(left.values[n], right.values[m], deep) {
			return false
		}
	}
	return true
}

// same: what `is` asks.
func same(left, right any) bool {
	switch left.(type) {
	case *list, *dict, *function:
		return left == right
	}
	return equal(left, right)
}

// contains: what `in` asks.
func contains(thing, v any) bool {
	switch x := thing.(type) {
	case *list:
		var c comparison
		for _, item := range x.items {
			if c.equal(item, v, 1) {
				return true
			}
		}
		return false
	case *dict:
		_, ok := x.find(v)
		return ok
	case string:
		return strings.Contains(x, as[string](v))
	}
	panic(raised{rules.TypeError})
}
