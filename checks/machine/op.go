package machine

import (
	"nurserypy/api"
	"nurserypy/code"
)

// maxIdle ops without a step are too many.
const maxIdle = 100000

// op does the next one.
func (m *machine) op() {
	f := m.top()
	op := f.Ops[f.at]
	f.at++
	m.idle++
	if !m.constant(f, op) && !m.name(f, op) && !m.flow(f, op) && !m.made(f, op) {
		worked(f, op.Name)
	}
}

func (m *machine) constant(f *frame, op code.Op) bool {
	switch op.Name {
	case "const":
		f.push([]any{nil, false, true}[op.A])
	case "int":
		f.push(m.Ints[op.A])
	case "str":
		fits(len(m.Strs[op.A]))
		f.push(m.Strs[op.A])
	case "pop":
		f.pop()
	case "dup":
		f.push(f.stack[len(f.stack)-1])
	default:
		return false
	}
	return true
}

func (m *machine) name(f *frame, op code.Op) bool {
	switch op.Name {
	case "load":
		f.push(f.locals[op.A].get())
	case "store":
		*f.locals[op.A] = slot{f.pop(), true}
	case "cell":
		f.push(f.cells[op.A].get())
	case "fill":
		*f.cells[op.A] = slot{f.pop(), true}
	case "global":
		v, has := m.globals[m.Names[op.A]]
		s := slot{v, has}
		f.push(s.get())
	case "name":
		m.globals[m.Names[op.A]] = f.pop()
	default:
		return false
	}
	return true
}

func (m *machine) flow(f *frame, op code.Op) bool {
	switch op.Name {
	case "jump":
		f.at = op.A
	case "unless":
		if !truth(f.pop()) {
			f.at = op.A
		}
	case "next":
		over, ok := f.stack[len(f.stack)-1].(*inside)
		if !ok {
			raise("Type")
		}
		if v, more := over.next(); more {
			f.push(v)
		} else {
			f.pop()
			f.at = op.A
		}
	case "try":
		f.tries = append(f.tries, try{op.A, len(f.stack)})
	case "end":
		f.tries = f.tries[:len(f.tries)-1]
	case "raise":
		panic(raised{f.pop()})
	case "return":
		m.frames = m.frames[:len(m.frames)-1]
		m.top().push(f.pop())
	case "step":
		m.step()
	case "halt":
		m.kind = "done"
	default:
		return false
	}
	return true
}

func (m *machine) step() {
	if m.steps == m.fuel {
		m.kind = "tired"
		return
	}
	m.steps++
	m.idle = 0
}

// made: ops that make something of as many values as there are.
func (m *machine) made(f *frame, op code.Op) bool {
	switch op.Name {
	case "call":
		values := f.pops(op.A + 1)
		m.call(values[0], values[1:])
	case "list":
		f.push(&list{items: f.pops(op.A)})
	case "dict":
		values := f.pops(2 * op.A)
		d := &dict{}
		for n := 0; n < len(values); n += 2 {
			d.put(values[n], values[n+1])
		}
		f.push(d)
	case "closure":
		made := &function{Func: m.Funcs[op.A]}
		for range made.Frees {
			made.frees = append(made.frees, f.cells[f.Ops[f.at].A])
			f.at++
			m.idle++
		}
		f.push(made)
	default:
		return false
	}
	return true
}

func (m *machine) call(called any, args []any) {
	switch x := called.(type) {
	case *function:
		if len(args) != x.Params {
			raise("Type")
		}
		if len(m.frames) > api.MaxCalls {
			raise("Recursion")
		}
		m.frames = append(m.frames, opened(x.Func, x.frees, args))
	case builtin:
		m.top().push(m.builtin(x, args))
	default:
		raise("Type")
	}
}
