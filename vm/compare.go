package vm

import (
	"strings"

	"nurserypy/api"
	"nurserypy/rules"
)

// A comparison knows what it found equal so far, by where it lies: nothing moves as long as nothing is made, and a
// comparison makes nothing.
type comparison struct {
	*machine
	rules.Found[couple]
}

type couple struct {
	left, right api.Word
}

func (m *machine) equal(left, right int) bool {
	c := comparison{machine: m}
	return c.equal(left, right, 1)
}

// equal: lists and dicts are so deep in what is compared.
func (c *comparison) equal(left, right, deep int) bool {
	if c.kind(left) != c.kind(right) {
		return c.alike(left, right)
	}
	var asked func() bool
	switch c.kind(left) {
	case listKind:
		asked = func() bool { return c.lists(list(left), list(right), deep+1) }
	case dictKind:
		asked = func() bool { return c.dicts(dict(left), dict(right), deep+1) }
	default:
		return c.alike(left, right)
	}
	return sure(c.Equal(couple{c.word(left), c.word(right)}, deep, asked))
}

func (c *comparison) lists(left, right list, deep int) bool {
	among := c.count(int(left))
	equal := among == c.count(int(right))
	for n := 0; n < among && equal; n++ {
		equal = c.elements(left.row(), n, right.row(), n, deep)
	}
	return equal
}

func (c *comparison) dicts(left, right dict, deep int) bool {
	among := c.count(int(left))
	equal := among == c.count(int(right))
	for n := 0; n < among && equal; n++ {
		m := c.partner(left.keys(), n, right.keys())
		equal = m >= 0 && c.elements(left.values(), n, right.values(), m, deep)
	}
	return equal
}

// elements: whether one of a row is equal to one of another row.
func (c *comparison) elements(left row, n int, right row, m int, deep int) bool {
	equal := c.equal(c.pushElement(left, n), c.pushElement(right, m), deep)
	c.drop(2)
	return equal
}

// partner: the place of a key among as many others. Equal dicts mostly have it at the same place.
func (c *comparison) partner(keys row, n int, others row) int {
	key := c.pushElement(keys, n)
	m := c.find(others, n, key)
	if m < 0 {
		m = c.find(others, 0, key)
	}
	c.drop(1)
	return m
}

// order: below 0, 0 or above it, as the left one is less, equal or more.
func (m *machine) order(left, right int) int {
	return sure(rules.Order(m.value(left), m.value(right)))
}

// contains: what `in` asks.
func (m *machine) contains(thing, slot int) bool {
	switch x := m.value(thing).(type) {
	case list:
		return m.has(x, slot)
	case dict:
		return m.locate(x, slot) >= 0
	case string:
		return strings.Contains(x, as[string](m.value(slot)))
	}
	panic(failed(rules.TypeError))
}

// has: whether an element of a list is equal to what a slot holds.
func (m *machine) has(l list, slot int) bool {
	c := comparison{machine: m}
	for n := range m.count(int(l)) {
		equal := c.equal(m.pushElement(l.row(), n), slot, 1)
		m.drop(1)
		if equal {
			return true
		}
	}
	return false
}
