package vm

import (
	"nurserypy/api"
	"nurserypy/code"
	"nurserypy/rules"
)

// Fields of a function: the number of its Func, then, two for each, the groups of its cells.
const (
	funcField = iota
	groupField
	groupFields = 2
)

// made: the Func of which a function is.
func (m *machine) made(f function) code.Func { return m.Funcs[m.number(int(f), funcField)] }

// call what lies beneath so many arguments.
func (m *machine) call(arguments int) {
	called := m.top - arguments - 1
	switch x := m.value(called).(type) {
	case function:
		m.enter(x, arguments)
	case builtin:
		if !rules.Takes(string(x), arguments) {
			panic(failed(rules.TypeError))
		}
		m.builtin(x, called+1)
		m.keep(arguments + 1)
	default:
		panic(failed(rules.TypeError))
	}
}

// enter a function. Its arguments are its first locals, where they are; the other ones, and its cells, are empty.
func (m *machine) enter(x function, arguments int) {
	made := m.made(x)
	if arguments != made.Params {
		panic(failed(rules.TypeError))
	}
	if len(m.frames) > api.MaxCalls {
		panic(failed(rules.RecursionError))
	}
	f := &frame{ops: made.Ops, locals: int(x) + 1}
	f.cells = f.locals + made.Locals
	m.resize(f.cells + made.Cells)
	fields := must(m.Size(first(int(x))))
	for field := groupField; field < fields; field += groupFields {
		m.pushGroup(int(x), field)
	}
	m.frames = append(m.frames, f)
}

// leave a function: what it answers takes the place of all that the call had.
func (m *machine) leave(f *frame) {
	m.copy(f.locals-1, m.top-1)
	m.resize(f.locals)
	m.frames = m.frames[:len(m.frames)-1]
}

// enclose puts a new function on the stack, with the cells that the next ops take.
func (m *machine) enclose(f *frame, number int) {
	frees := m.Funcs[number].Frees
	var cells []int
	for _, op := range f.ops[f.at : f.at+frees] {
		cells = append(cells, f.cells+op.A)
	}
	f.at += frees
	m.idle += frees
	m.share(cells)
	groups := m.groups(cells)
	made := m.push()
	m.create(made, functionKind, groupField+groupFields*len(groups))
	m.setNumber(made, funcField, number)
	for n, p := range groups {
		m.setGroup(made, groupField+groupFields*n, p)
	}
}

func (m *machine) load(slot int) {
	if m.empty(slot) {
		panic(failed(rules.NameError))
	}
	m.pushCopy(slot)
}

func (m *machine) store(slot int) {
	m.copy(slot, m.top-1)
	m.drop(1)
}
