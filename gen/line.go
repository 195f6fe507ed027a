package gen

import "nurserypy/tree"

// A loop around the place where a maker is.
type loop struct {
	top   int  // the op at which each round begins
	tries int  // that are open around it
	holds bool // on the stack, what it goes through
	out   mark
}

func (m *maker) block(l []tree.Stmt) {
	for _, s := range l {
		m.statement(s)
	}
}

func (m *maker) statement(s tree.Stmt) {
	m.do("step")
	switch s.Kind {
	case "if":
		m.choice(s)
	case "while":
		m.while(s)
	case "for":
		m.each(s)
	case "try":
		m.attempt(s)
	case "break", "continue":
		m.leave(s.Kind)
	default:
		m.line(s)
	}
}

// line: a statement that has no blocks of this Func. (Of pass, global and nonlocal there is but the step.)
func (m *maker) line(s tree.Stmt) {
	m.terms(s.L)
	switch s.Kind {
	case "expr":
		m.do("pop")
	case "set":
		m.become(s.Name)
	case "put", "del", "raise":
		m.do(s.Kind)
	case "def":
		m.function(s.P, s.Body, tree.Expr{Op: "None"})
		m.become(s.Name)
	case "return":
		if len(s.L) == 0 {
			m.term(tree.Expr{Op: "None"})
		}
		m.do("return")
	}
}

func (m *maker) choice(s tree.Stmt) {
	var other, behind mark
	m.terms(s.L)
	m.jump("unless", &other)
	m.block(s.Body)
	if len(s.Else) > 0 {
		m.jump("jump", &behind)
	}
	m.land(other)
	m.block(s.Else)
	m.land(behind)
}

func (m *maker) while(s tree.Stmt) {
	l := &loop{top: len(m.ops), tries: m.tries}
	m.do("step")
	m.terms(s.L)
	m.jump("unless", &l.out)
	m.round(l, s.Body)
}

func (m *maker) each(s tree.Stmt) {
	m.terms(s.L)
	m.do("iter")
	l := &loop{top: len(m.ops), tries: m.tries, holds: true}
	m.jump("next", &l.out)
	m.do("step")
	m.become(s.Name)
	m.round(l, s.Body)
}

// round does a loop's body, and goes back.
func (m *maker) round(l *loop, body []tree.Stmt) {
	m.loops = append(m.loops, l)
	m.block(body)
	m.loops = m.loops[:len(m.loops)-1]
	m.add("jump", l.top)
	m.land(l.out)
}

// leave: break or continue. What is open within the loop is ended first: below a try nothing may be taken.
func (m *maker) leave(kind string) {
	l := m.loops[len(m.loops)-1]
	for range m.tries - l.tries {
		m.do("end")
	}
	if kind == "continue" {
		m.add("jump", l.top)
		return
	}
	if l.holds {
		m.do("pop")
	}
	m.jump("jump", &l.out)
}

func (m *maker) attempt(s tree.Stmt) {
	var caught, behind mark
	m.jump("try", &caught)
	m.tries++
	m.block(s.Body)
	m.tries--
	m.do("end")
	m.jump("jump", &behind)
	m.land(caught)
	m.become(s.Name)
	m.block(s.Else)
	m.land(behind)
}
