package vm

import "nurserypy/api"

// A row of elements: the slot of the list or dict that has it, and its field there. It may be longer than there are
// elements: what is behind them is None. As long as there never was one, there is no row.
type row struct {
	of, field int
}

// pushRow puts the row itself on the stack.
func (m *machine) pushRow(r row) int { return m.pushField(r.of, r.field) }

// room: how many fields a row has.
func (m *machine) room(r row) int {
	fields, _ := m.Size(first(m.pushRow(r))) // 0, where there is no row
	m.drop(1)
	return fields
}

// lengthen: a row has so many fields from now on. Its elements come along.
func (m *machine) lengthen(r row, fields int) {
	longer := m.push()
	m.create(longer, rowKind, fields)
	m.pour(longer, 0, r)
	m.put(r.of, r.field, longer)
	m.drop(1)
}

// pour all elements of a row into one that a slot holds, from a field on: how many they are.
func (m *machine) pour(to, field int, r row) int {
	elements := m.count(r.of)
	if elements > 0 {
		check(m.Move(first(to), field, first(m.pushRow(r)), 0, elements))
		m.drop(1)
	}
	return elements
}

// pushElement puts an element on the stack.
func (m *machine) pushElement(r row, n int) int {
	slot := m.pushRow(r)
	m.get(slot, n, slot)
	return slot
}

func (m *machine) setElement(r row, n, from int) {
	slot := m.pushRow(r)
	m.put(slot, n, from)
	m.drop(1)
}

// addElement lets what a slot holds come behind the last element. (Whoever has the row counts it.)
func (m *machine) addElement(r row, from int) {
	n := m.count(r.of)
	if n == m.room(r) {
		m.lengthen(r, n+n/4+4)
	}
	m.setElement(r, n, from)
}

// cutElement takes an element out. (Whoever has the row counts it off.)
func (m *machine) cutElement(r row, n int) {
	last := m.count(r.of) - 1
	slot := m.pushRow(r)
	check(m.Move(first(slot), n, first(slot), n+1, last-n))
	m.setConst(hand, api.None)
	m.put(slot, last, hand)
	m.drop(1)
}

// find the like of what a slot holds, among the elements from one on: -1 if there is none.
func (m *machine) find(r row, from, like int) int {
	among := m.count(r.of) - from
	if among == 0 {
		return -1
	}
	m.box(like)
	n := must(m.Find(first(m.pushRow(r)), from, among, first(like)))
	m.drop(1)
	return n
}
