package vm

import "nurserypy/rules"

// Fields of what iter makes.
const (
	thingField = iota
	placeField
	insideFields
)

// pushInside puts what goes through a thing on the stack. (Keys of a dict that come, or go, on the way do not matter.)
func (m *machine) pushInside(thing int) {
	switch x := m.value(thing).(type) {
	case list, string:
		m.pushCopy(thing)
	case dict:
		m.pushJoined(x.keys())
	default:
		panic(failed(rules.TypeError))
	}
	over := m.push()
	m.create(over, insideKind, insideFields)
	m.put(over, thingField, over-1)
	m.setNumber(over, placeField, 0)
	m.keep(1)
}

// advance puts the next element of what is gone through on the stack: false, if there is none.
func (m *machine) advance(slot int) bool {
	over := as[inside](m.value(slot))
	n := m.number(int(over), placeField)
	m.pushField(int(over), thingField)
	if !m.pushNth(m.top-1, n) {
		m.drop(1)
		return false
	}
	m.keep(1)
	m.setNumber(int(over), placeField, n+1)
	return true
}

// pushNth puts an element of a list, or a byte of a str, on the stack, if it has so many.
func (m *machine) pushNth(thing, n int) bool {
	switch x := m.value(thing).(type) {
	case list:
		if n < m.count(thing) {
			m.pushElement(x.row(), n)
			return true
		}
	case string:
		if n < len(x) {
			m.pushShared(x[n : n+1])
			return true
		}
	}
	return false
}
