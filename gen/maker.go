package gen

import (
	"nurserypy/api"
	"nurserypy/code"
	"nurserypy/tree"
)

// A maker makes the ops of one Func.
type maker struct {
	*pool
	room
	number int // of its Func
	ops    []code.Op
	dead   bool // where it is now, no run comes to
	tries  int  // that are open
	loops  []*loop
}

// A mark is a place behind, of which ops are to know when it is come to.
type mark struct {
	from []int
}

// do adds an op that has no A.
func (m *maker) do(name string) {
	m.add(name, 0)
}

func (m *maker) add(name string, a int) {
	if m.dead {
		return
	}
	m.ops = append(m.ops, code.Op{Name: name, A: a})
	switch name {
	case "jump", "raise", "return", "halt":
		m.dead = true
	}
}

// jump adds an op whose A is a mark.
func (m *maker) jump(name string, to *mark) {
	if !m.dead {
		to.from = append(to.from, len(m.ops))
	}
	m.add(name, 0)
}

// land: the mark is here.
func (m *maker) land(here mark) {
	for _, n := range here.from {
		m.ops[n].A = len(m.ops)
		m.dead = false
	}
}

// value puts what a name has.
func (m *maker) value(name string) {
	p, own := m.places[name]
	switch {
	case !own:
		m.add("global", m.names.number(name))
	case p.celled:
		m.add("cell", p.at)
	default:
		m.add("load", p.at)
	}
}

// become takes what a name has from now on.
func (m *maker) become(name string) {
	p, own := m.places[name]
	switch {
	case !own:
		m.add("name", m.names.number(name))
	case p.celled:
		m.add("fill", p.at)
	default:
		m.add("store", p.at)
	}
}

// function puts a new one, which does its body, and, if that has an end, answers a term.
func (m *maker) function(params []string, body []tree.Stmt, answer tree.Expr) {
	in := m.begin(params)
	in.enter()
	in.block(body)
	in.term(answer)
	in.do("return")
	in.finish()
	m.add("closure", in.number)
	for _, name := range in.Frees {
		m.add("take", m.places[name].at)
	}
}

// enter: how each call begins.
func (m *maker) enter() {
	m.do("step")
	for n, name := range m.params {
		if m.places[name].celled {
			m.add("load", n)
			m.become(name)
		}
	}
}

func (m *maker) finish() {
	m.funcs[m.number].Ops = m.ops
}

// term puts its value.
func (m *maker) term(e tree.Expr) {
	switch e.Op {
	case "int":
		m.add("int", m.ints.number(e.N))
	case "str":
		m.add("str", m.strs.number(e.S))
	case "None":
		m.add("const", api.None)
	case "False":
		m.add("const", api.False)
	case "True":
		m.add("const", api.True)
	case "name":
		m.value(e.S)
	case "lambda":
		m.function(e.P, nil, e.L[0])
	case "and", "or":
		m.either(e)
	default:
		m.terms(e.L)
		m.work(e)
	}
}

func (m *maker) terms(l []tree.Expr) {
	for _, e := range l {
		m.term(e)
	}
}

// either: the left one stays, if it decides.
func (m *maker) either(e tree.Expr) {
	var decided mark
	m.term(e.L[0])
	m.do("dup")
	if e.Op == "or" {
		m.do("not")
	}
	m.jump("unless", &decided)
	m.do("pop")
	m.term(e.L[1])
	m.land(decided)
}

// work makes one value of those of the parts.
func (m *maker) work(e tree.Expr) {
	switch e.Op {
	case "call":
		m.add("call", len(e.L)-1)
	case "list":
		m.add("list", len(e.L))
	case "dict":
		m.add("dict", len(e.L)/2)
	default:
		m.do(opOf(e.Op))
	}
}

// opOf: the op that works an operator out.
func opOf(operator string) string {
	switch operator {
	case "+":
		return "add"
	case "-":
		return "sub"
	case "*":
		return "mul"
	case "//":
		return "div"
	case "%":
		return "mod"
	case "==":
		return "eq"
	case "!=":
		return "ne"
	case "<":
		return "lt"
	case "<=":
		return "le"
	case ">":
		return "gt"
	case ">=":
		return "ge"
	}
	return operator
}
