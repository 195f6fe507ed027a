package vm

import (
	"nurserypy/code"
	"nurserypy/rules"
)

// An op is of one of four sorts; those of the first three tell whether it is one of theirs.

// moves: ops that put a value, or let a name become one.
func (m *machine) moves(f *frame, op code.Op) bool {
	switch op.Name {
	case "const":
		m.pushConst(op.A)
	case "int":
		m.pushInt(m.Ints[op.A])
	case "str":
		ask(rules.Fits(len(m.Strs[op.A])))
		m.pushShared(m.Strs[op.A])
	case "load":
		m.load(f.locals + op.A)
	case "store":
		m.store(f.locals + op.A)
	case "cell":
		m.loadCell(f.cells + op.A)
	case "fill":
		m.storeCell(f.cells + op.A)
	case "global":
		m.load(m.globals[op.A])
	case "name":
		m.store(m.globals[op.A])
	case "pop":
		m.drop(1)
	case "dup":
		m.pushCopy(m.top - 1)
	default:
		return false
	}
	return true
}

// flows: ops by which it goes on elsewhere, or not at all, or may have to.
func (m *machine) flows(f *frame, op code.Op) bool {
	switch op.Name {
	case "jump":
		f.at = op.A
	case "unless":
		if !m.truth(m.top - 1) {
			f.at = op.A
		}
		m.drop(1)
	case "next":
		if !m.advance(m.top - 1) {
			m.drop(1)
			f.at = op.A
		}
	case "try":
		f.tries = append(f.tries, try{op.A, m.top})
	case "end":
		f.tries = f.tries[:len(f.tries)-1]
	case "raise":
		panic(raised(m.top - 1))
	case "return":
		m.leave(f)
	case "step":
		m.step()
	case "halt":
		m.end = ending{kind: "done"}
	default:
		return false
	}
	return true
}

// makes: ops that make something of as many values as their A says, and those that change a thing.
func (m *machine) makes(f *frame, op code.Op) bool {
	switch op.Name {
	case "call":
		m.call(op.A)
	case "list":
		m.gather(m.top-op.A, op.A)
		m.keep(op.A)
	case "dict":
		m.pair(m.top-2*op.A, op.A)
		m.keep(2 * op.A)
	case "closure":
		m.enclose(f, op.A)
	case "put":
		m.change(m.top-3, m.top-2, m.top-1)
		m.drop(3)
	case "del":
		m.erase(m.top-2, m.top-1)
		m.drop(2)
	case "iter":
		m.pushInside(m.top - 1)
		m.keep(1)
	default:
		return false
	}
	return true
}

// works: operators, whose value takes the place of their parts.
func (m *machine) works(name string) {
	switch name {
	case "neg":
		m.pushInt(sure(rules.Number("sub", 0, as[int64](m.value(m.top-1)))))
		m.keep(1)
	case "not":
		m.pushBool(!m.truth(m.top - 1))
		m.keep(1)
	default:
		m.operate(name, m.top-2, m.top-1)
		m.keep(2)
	}
}
