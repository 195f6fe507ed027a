package vm

import "nurserypy/rules"

// Fields of a list.
const (
	countField = iota // of a dict, too
	rowField
	listFields
)

func (l list) row() row { return row{int(l), rowField} }

// count of the elements of a list, or of the keys of a dict.
func (m *machine) count(slot int) int { return m.number(slot, countField) }

func (m *machine) setCount(slot, n int) { m.setNumber(slot, countField, n) }

// pushList puts a new list on the stack, of so many elements, all None.
func (m *machine) pushList(elements int) list {
	l := list(m.push())
	m.create(int(l), listKind, listFields)
	m.setCount(int(l), 0)
	if elements > 0 {
		m.lengthen(l.row(), elements)
		m.setCount(int(l), elements)
	}
	return l
}

// pushJoined puts a new list on the stack: all elements of some rows, in their order.
func (m *machine) pushJoined(parts ...row) {
	elements := 0
	for _, r := range parts {
		elements += m.count(r.of)
	}
	ask(rules.Fits(elements))
	to := m.pushRow(m.pushList(elements).row())
	at := 0
	for _, r := range parts {
		at += m.pour(to, at, r)
	}
	m.drop(1)
}

// gather puts a new list on the stack: what so many slots hold, from one on.
func (m *machine) gather(from, slots int) {
	to := m.pushRow(m.pushList(slots).row())
	for n := range slots {
		m.lay(to, n, from+n)
	}
	m.drop(1)
}

// add lets what a slot holds come last in a list.
func (m *machine) add(l list, from int) {
	n := m.count(int(l))
	ask(rules.Fits(n + 1))
	m.addElement(l.row(), from)
	m.setCount(int(l), n+1)
}

// cut an element out of a list.
func (m *machine) cut(l list, n int) {
	m.cutElement(l.row(), n)
	m.setCount(int(l), m.count(int(l))-1)
}
