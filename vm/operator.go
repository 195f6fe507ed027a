package vm

import "nurserypy/rules"

// operate puts what an operator makes of two slots on the stack.
func (m *machine) operate(name string, left, right int) {
	switch name {
	case "index":
		m.pushIndexed(left, right)
	case "add":
		m.pushSum(left, right)
	case "eq":
		m.pushBool(m.equal(left, right))
	case "ne":
		m.pushBool(!m.equal(left, right))
	case "is":
		m.pushBool(m.alike(left, right))
	case "in":
		m.pushBool(m.contains(right, left))
	case "lt":
		m.pushBool(m.order(left, right) < 0)
	case "le":
		m.pushBool(m.order(left, right) <= 0)
	case "gt":
		m.pushBool(m.order(left, right) > 0)
	case "ge":
		m.pushBool(m.order(left, right) >= 0)
	default:
		m.pushInt(sure(rules.Number(name, as[int64](m.value(left)), as[int64](m.value(right)))))
	}
}

func (m *machine) pushSum(left, right int) {
	v, w := m.value(left), m.value(right)
	if x, y, ok := rules.Both[string](v, w); ok {
		ask(rules.Fits(len(x) + len(y)))
		m.pushText(x + y)
		return
	}
	if x, y, ok := rules.Both[list](v, w); ok {
		m.pushJoined(x.row(), y.row())
		return
	}
	m.pushInt(sure(rules.Number("add", as[int64](v), as[int64](w))))
}

// place in a list or str of so many that the index in a slot tells.
func (m *machine) place(at, among int) int {
	return sure(rules.Place(as[int64](m.value(at)), among))
}

func (m *machine) pushIndexed(thing, at int) {
	switch x := m.value(thing).(type) {
	case list:
		m.pushElement(x.row(), m.place(at, m.count(thing)))
	case dict:
		m.pushElement(x.values(), m.mustLocate(x, at))
	case string:
		n := m.place(at, len(x))
		m.pushShared(x[n : n+1])
	default:
		panic(failed(rules.TypeError))
	}
}

// change what a thing has at an index.
func (m *machine) change(thing, at, from int) {
	switch x := m.value(thing).(type) {
	case list:
		m.setElement(x.row(), m.place(at, m.count(thing)), from)
	case dict:
		m.assign(x, at, from)
	default:
		panic(failed(rules.TypeError))
	}
}

func (m *machine) erase(thing, at int) {
	switch x := m.value(thing).(type) {
	case list:
		m.cut(x, m.place(at, m.count(thing)))
	case dict:
		m.remove(x, at)
	default:
		panic(failed(rules.TypeError))
	}
}
