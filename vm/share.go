package vm

// Some strs are asked for again and again: those that are written out in the code, the names of what goes wrong, single
// bytes. Each of these is there but once, however many places have it: strs do not change, and equal ones are the same.
// The machine has just weak references to them: what nothing else leads to is gone.

// pushShared puts a str of these on the stack.
func (m *machine) pushShared(text string) {
	slot := m.push()
	weak, known := m.shared[text]
	if known && must(m.Look(weak, first(slot))) {
		return
	}
	m.setText(slot, text)
	if known {
		check(m.Aim(weak, first(slot)))
		return
	}
	m.shared[text] = must(m.Weak(first(slot)))
}
