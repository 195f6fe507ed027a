package vm

import "nurserypy/lex"

// What is thrown: the name of what went wrong, the slot of a value that is raised, or that the heap is full.
type (
	failed string
	raised int
	full   struct{}
)

// sure: what the rules tell, where nothing is wrong with it.
func sure[T any](v T, wrong string) T {
	ask(wrong)
	return v
}

// ask throws what is wrong, if something is.
func ask(wrong string) {
	if wrong != "" {
		panic(failed(wrong))
	}
}

// attempt does something; what is thrown in it is caught here.
func (m *machine) attempt(something func()) {
	defer func() {
		switch x := recover().(type) {
		case nil:
		case full:
			m.end = ending{kind: "full"}
		case failed:
			m.fail(string(x))
		case raised:
			m.raise(int(x))
		default:
			panic(x)
		}
	}()
	something()
}

// fail: it goes on with the name of what went wrong, as a str. (Its words are asked for when all that is given up is off
// the stack.)
func (m *machine) fail(name string) {
	t, ok := m.unwind()
	if !ok {
		m.end = ending{"raised", lex.Quote(name)}
		return
	}
	m.resize(t.slots)
	m.attempt(func() { m.pushShared(name) })
}

// raise: it goes on with the value of a slot.
func (m *machine) raise(slot int) {
	t, ok := m.unwind()
	if !ok {
		m.attempt(func() { m.end = ending{"raised", m.repr(slot, 1)} }) // if that fails, nobody catches it, too
		return
	}
	m.copy(t.slots, slot)
	m.resize(t.slots + 1)
}

// unwind to the last try that is open, and end it: false, if there is none.
func (m *machine) unwind() (last try, ok bool) {
	for len(m.frames) > 0 {
		f := m.frames[len(m.frames)-1]
		if n := len(f.tries); n > 0 {
			last = f.tries[n-1]
			f.tries = f.tries[:n-1]
			f.at = last.at
			return last, true
		}
		m.frames = m.frames[:len(m.frames)-1]
	}
	return try{}, false
}
