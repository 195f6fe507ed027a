package vm

import (
	"nurserypy/heap"
	"nurserypy/rules"
)

// Fields of a dict, behind the count.
const (
	keysField = countField + 1 + iota
	valuesField
	dictFields
)

func (d dict) keys() row { return row{int(d), keysField} }

func (d dict) values() row { return row{int(d), valuesField} }

// pushDict puts a new dict on the stack, without keys.
func (m *machine) pushDict() dict {
	d := m.push()
	m.create(d, dictKind, dictFields)
	m.setCount(d, 0)
	return dict(d)
}

// pair puts a new dict on the stack: so many keys, each with its value behind it, from a slot on.
func (m *machine) pair(from, pairs int) {
	d := m.pushDict()
	for n := range pairs {
		m.assign(d, from+2*n, from+2*n+1)
	}
}

// isKey: None, bools, ints and strs are keys.
func (m *machine) isKey(slot int) bool {
	switch m.kind(slot) {
	case 0, heap.TextKind:
		return true
	}
	return false
}

// locate a key: -1 if it is not there.
func (m *machine) locate(d dict, key int) int {
	if !m.isKey(key) {
		panic(failed(rules.TypeError))
	}
	return m.find(d.keys(), 0, key)
}

// mustLocate a key that has to be there.
func (m *machine) mustLocate(d dict, key int) int {
	n := m.locate(d, key)
	if n < 0 {
		panic(failed(rules.KeyError))
	}
	return n
}

// assign a value to a key.
func (m *machine) assign(d dict, key, value int) {
	if n := m.locate(d, key); n >= 0 {
		m.setElement(d.values(), n, value)
		return
	}
	n := m.count(int(d))
	ask(rules.Fits(n + 1))
	m.addElement(d.keys(), key)
	m.addElement(d.values(), value)
	m.setCount(int(d), n+1)
}

// remove a key, and its value.
func (m *machine) remove(d dict, key int) {
	n := m.mustLocate(d, key)
	m.cutElement(d.keys(), n)
	m.cutElement(d.values(), n)
	m.setCount(int(d), m.count(int(d))-1)
}
