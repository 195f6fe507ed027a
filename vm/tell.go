package vm

import "nurserypy/rules"

func (m *machine) str(slot int) string {
	if s, ok := m.value(slot).(string); ok {
		return s
	}
	return m.repr(slot, 1)
}

// repr: the text of what a slot holds; if that is a list or dict, it is so deep in what is told.
func (m *machine) repr(slot, deep int) string {
	text := ""
	switch x := m.value(slot).(type) {
	case list:
		text = "[" + m.joined(slot, deep, func(n int) string { return m.reprElement(x.row(), n, deep+1) }) + "]"
	case dict:
		text = "{" + m.joined(slot, deep, func(n int) string {
			return m.reprElement(x.keys(), n, deep+1) + ": " + m.reprElement(x.values(), n, deep+1)
		}) + "}"
	case function:
		text = "<function " + m.made(x).Name + ">"
	case builtin:
		text = "<builtin " + string(x) + ">"
	case inside:
		text = "<inside>"
	default:
		text = rules.Repr(x)
	}
	ask(rules.Fits(len(text)))
	return text
}

func (m *machine) reprElement(r row, n, deep int) string {
	text := m.repr(m.pushElement(r, n), deep)
	m.drop(1)
	return text
}

// joined: what stands within the brackets of a list or dict.
func (m *machine) joined(slot, deep int, element func(int) string) string {
	ask(rules.Nests(deep))
	return sure(rules.Joined(m.count(slot), element))
}
