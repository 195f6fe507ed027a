package vm

import (
	"nurserypy/api"
	"nurserypy/heap"
	"nurserypy/rules"
)

// Kinds of objects. A pack has values, of which other objects are made; a list has the number of its elements, and a row
// of them; a dict the number of its keys, a row of them, and one of their values; a function the number of its Func, and
// where its cells are; what iter makes the thing that is gone through, and a place in it; a builtin its number.
const (
	packKind = iota + 8
	listKind
	dictKind
	functionKind
	insideKind
	builtinKind
)

// What a slot holds is told as nil (None), a bool, an int64, a string, a builtin, or one of these: the slot itself, by
// what is in it.
type (
	list     int
	dict     int
	function int
	inside   int
)

// A builtin is told by its name.
type builtin string

func builtins() []builtin {
	var out []builtin
	for _, name := range rules.Builtins() {
		out = append(out, builtin(name))
	}
	return out
}

func (m *machine) value(slot int) any {
	if n, ok := m.toInt(slot); ok {
		return n
	}
	switch m.kind(slot) {
	case heap.TextKind:
		return must(m.ToText(first(slot)))
	case listKind:
		return list(slot)
	case dictKind:
		return dict(slot)
	case functionKind:
		return function(slot)
	case insideKind:
		return inside(slot)
	case builtinKind:
		return m.builtins[m.number(slot, 0)]
	}
	return m.constant(slot)
}

func (m *machine) constant(slot int) any {
	switch m.word(slot) >> 2 {
	case api.False:
		return false
	case api.True:
		return true
	}
	return nil
}

// as: a value of a kind that it must have.
func as[T any](v any) T {
	x, ok := v.(T)
	if !ok {
		panic(failed(rules.TypeError))
	}
	return x
}

func (m *machine) truth(slot int) bool {
	switch x := m.value(slot).(type) {
	case list, dict:
		return m.count(slot) > 0
	default:
		return rules.Truth(x)
	}
}

// The hand is a slot in which a number lies for a moment.
const hand = 0

// number that a field holds.
func (m *machine) number(slot, field int) int {
	m.get(slot, field, hand)
	n, _ := m.toInt(hand)
	return int(n)
}

func (m *machine) setNumber(slot, field, n int) {
	m.setInt(hand, int64(n))
	m.put(slot, field, hand)
}

func (m *machine) pushConst(n int) { m.setConst(m.push(), n) }

func (m *machine) pushInt(n int64) { m.setInt(m.push(), n) }

func (m *machine) pushText(s string) { m.setText(m.push(), s) }

func (m *machine) pushCopy(slot int) { m.copy(m.push(), slot) }

func (m *machine) pushBool(b bool) {
	if b {
		m.pushConst(api.True)
		return
	}
	m.pushConst(api.False)
}

// pushField puts a field of what a slot holds on the stack.
func (m *machine) pushField(slot, field int) int {
	to := m.push()
	m.get(slot, field, to)
	return to
}
