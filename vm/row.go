package vm

import "nurserypy/api"

// A row of elements: the slot of the list or dict that has it, and its field there, in which a pack is. That may have room
// for more than there are elements: what is behind them is None. As long as there never was one, there is no pack.
type row struct {
	of, field int
}

func (m *machine) pushRow(r row) pack { return pack(m.pushField(r.of, r.field)) }

// lengthen: a row has room for so many elements from now on. Those that it has come along.
func (m *machine) lengthen(r row, room int) {
	longer := m.pushPack(room)
	m.pour(longer, 0, r)
	m.put(r.of, r.field, int(longer))
	m.drop(1)
}

// pour all elements of a row into a pack, from a place on: how many they are.
func (m *machine) pour(to pack, at int, r row) int {
	elements := m.count(r.of)
	if elements > 0 {
		m.carry(to, at, m.pushRow(r), 0, elements)
		m.drop(1)
	}
	return elements
}

// pushElement puts an element on the stack.
func (m *machine) pushElement(r row, n int) int {
	p := m.pushRow(r)
	m.fetch(p, n, int(p))
	return int(p)
}

func (m *machine) setElement(r row, n, from int) {
	m.lay(m.pushRow(r), n, from)
	m.drop(1)
}

// addElement lets what a slot holds come behind the last element. (Whoever has the row counts it.)
func (m *machine) addElement(r row, from int) {
	n := m.count(r.of)
	room := m.room(m.pushRow(r))
	m.drop(1)
	if n == room {
		m.lengthen(r, n+n/4+4)
	}
	m.setElement(r, n, from)
}

// cutElement takes an element out. (Whoever has the row counts it off.)
func (m *machine) cutElement(r row, n int) {
	last := m.count(r.of) - 1
	p := m.pushRow(r)
	m.carry(p, n, p, n+1, last-n)
	m.pushConst(api.None)
	m.lay(p, last, m.top-1)
	m.drop(2)
}

// find the like of what a slot holds, among the elements from one on: -1 if there is none.
func (m *machine) find(r row, from, like int) int {
	end := m.count(r.of)
	if from == end {
		return -1
	}
	n := m.seek(m.pushRow(r), from, end, like)
	m.drop(1)
	return n
}
