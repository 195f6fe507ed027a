package vm

import (
	"nurserypy/api"
	"nurserypy/rules"
)

// builtin puts what a builtin answers on the stack; its arguments lie from a slot on.
func (m *machine) builtin(b builtin, from int) {
	switch b {
	case "len":
		m.pushInt(int64(m.length(from)))
	case "str":
		m.pushText(m.str(from))
	case "push":
		m.add(as[list](m.value(from)), from+1)
		m.pushConst(api.None)
	case "pop":
		m.pushPopped(as[list](m.value(from)))
	case "keys":
		m.pushJoined(as[dict](m.value(from)).keys())
	case "id":
		m.pushInt(int64(m.id(from)))
	case "range":
		m.pushRange(as[int64](m.value(from)))
	case "input":
		m.pushText(m.line())
	case "print":
		m.print(from, m.top)
		m.pushConst(api.None)
	case "collect":
		m.collectAsked(as[int64](m.value(from)))
		m.pushConst(api.None)
	}
}

func (m *machine) length(slot int) int {
	switch x := m.value(slot).(type) {
	case string:
		return len(x)
	case list, dict:
		return m.count(slot)
	}
	panic(failed(rules.TypeError))
}

func (m *machine) pushPopped(l list) {
	last := m.count(int(l)) - 1
	if last < 0 {
		panic(failed(rules.IndexError))
	}
	m.pushElement(l.row(), last)
	m.cut(l, last)
}

// id: the number of an object, which it has from the first time that it is asked for.
func (m *machine) id(slot int) int {
	switch m.value(slot).(type) {
	case list, dict, function:
		return must(m.Serial(first(slot)))
	}
	panic(failed(rules.TypeError))
}

// pushRange puts the list of the ints from 0 on that are below one on the stack.
func (m *machine) pushRange(end int64) {
	count := sure(rules.Counted(end))
	to := m.pushRow(m.pushList(count).row())
	for n := range count {
		m.setNumber(int(to), n, n)
	}
	m.drop(1)
}

// line: the next one of the input.
func (m *machine) line() string {
	if len(m.input) == 0 {
		panic(failed(rules.ValueError))
	}
	line := m.input[0]
	m.input = m.input[1:]
	return line
}

// print what some slots hold.
func (m *machine) print(from, end int) {
	var texts []string
	for slot := from; slot < end; slot++ {
		texts = append(texts, m.str(slot))
	}
	m.output.WriteString(sure(rules.Line(texts, m.output.Len())))
}

func (m *machine) collectAsked(n int64) {
	if n != 0 && n != 1 {
		panic(failed(rules.ValueError))
	}
	m.collect(n == 1)
}
