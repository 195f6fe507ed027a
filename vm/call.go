package vm

import (
	"nurserypy/api"
	"nurserypy/code"
	"nurserypy/rules"
)

// Fields of a function: the number of its Func, then its cells.
const (
	funcField = iota
	firstFree
)

// made: the Func of which a function is.
func (m *machine) made(f function) code.Func { return m.Funcs[m.number(int(f), funcField)] }

// call what lies beneath so many arguments.
func (m *machine) call(arguments int) {
	called := m.top - arguments - 1
	switch x := m.value(called).(type) {
	case function:
		m.enter(x, arguments)
	case builtin:
		if !rules.Takes(string(x), arguments) {
			panic(failed(rules.TypeError))
		}
		m.builtin(x, called+1)
		m.keep(arguments + 1)
	default:
		panic(failed(rules.TypeError))
	}
}

// enter a function. Its arguments are its first locals, where they are; the other ones, and its cells, are empty.
func (m *machine) enter(x function, arguments int) {
	made := m.made(x)
	if arguments != made.Params {
		panic(failed(rules.TypeError))
	}
	if len(m.frames) > api.MaxCalls {
		panic(failed(rules.RecursionError))
	}
	f := &frame{ops: made.Ops, locals: int(x) + 1}
	f.cells = f.locals + made.Locals
	m.resize(f.cells + made.Cells)
	for n := range made.Frees {
		m.pushField(int(x), firstFree+n)
	}
	m.frames = append(m.frames, f)
}

// leave a function: what it answers takes the place of all that the call had.
func (m *machine) leave(f *frame) {
	m.copy(f.locals-1, m.top-1)
	m.resize(f.locals)
	m.frames = m.frames[:len(m.frames)-1]
}

// enclose puts a new function on the stack, with the cells that the next ops take.
func (m *machine) enclose(f *frame, number int) {
	frees := m.Funcs[number].Frees
	made := m.push()
	m.create(made, functionKind, firstFree+frees)
	m.setNumber(made, funcField, number)
	for n := range frees {
		cell := f.cells + f.ops[f.at+n].A
		m.share(cell)
		m.put(made, firstFree+n, cell)
	}
	f.at += frees
	m.idle += frees
}

func (m *machine) load(slot int) {
	if m.empty(slot) {
		panic(failed(rules.NameError))
	}
	m.pushCopy(slot)
}

func (m *machine) store(slot int) {
	m.copy(slot, m.top-1)
	m.drop(1)
}

// A cell that nobody else has is what its slot holds; from the first time that a function takes it, it is an object.

// share makes an object of a cell, if it is none yet.
func (m *machine) share(cell int) {
	if m.kind(cell) == cellKind {
		return
	}
	shared := m.push()
	m.create(shared, cellKind, 1)
	m.put(shared, 0, cell)
	m.copy(cell, shared)
	m.drop(1)
}

func (m *machine) loadCell(cell int) {
	if m.kind(cell) != cellKind {
		m.load(cell)
		return
	}
	m.load(m.pushField(cell, 0))
	m.keep(1)
}

func (m *machine) storeCell(cell int) {
	if m.kind(cell) != cellKind {
		m.store(cell)
		return
	}
	m.put(cell, 0, m.top-1)
	m.drop(1)
}
