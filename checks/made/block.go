package made

import "nurserypy/tree"

// A place in a program: how deep blocks may still go, how many statements a block has at most, whether it is in a loop or a def.
type place struct {
	deep, most    int
	looped, inDef bool
}

func (p place) within() place {
	p.deep--
	p.most = 3
	return p
}

func (m *maker) block(p place) []tree.Stmt {
	var l []tree.Stmt
	for range 1 + m.below(p.most) {
		l = append(l, m.statement(p))
	}
	return l
}

// piece: a statement of the program itself. What raises in it is mostly told, and it goes on.
func (m *maker) piece(p place) tree.Stmt {
	if m.one(6) {
		return m.around(p)
	}
	return m.told(p)
}

func (m *maker) told(p place) tree.Stmt {
	print := alone(call("print", name("x"), m.plain(m.kind())))
	return tree.Stmt{Kind: "try", Body: m.block(p), Name: "x", Else: []tree.Stmt{print}}
}

func (m *maker) statement(p place) tree.Stmt {
	switch {
	case p.deep <= 0 || m.one(2):
		return m.line(p)
	case m.one(3):
		return m.told(p.within())
	}
	return m.around(p)
}

func (m *maker) line(p place) tree.Stmt {
	switch m.below(12) {
	case 0, 1, 2:
		to := m.pick(all)
		return set(to, m.term(kind(to), 3))
	case 3:
		return tree.Stmt{Kind: "put", L: []tree.Expr{m.term(lists, 1), m.at(1), m.any(2)}}
	case 4:
		return tree.Stmt{Kind: "put", L: []tree.Expr{m.term(dicts, 1), m.key(), m.any(2)}}
	case 5:
		if m.one(2) {
			return tree.Stmt{Kind: "del", L: []tree.Expr{m.term(dicts, 1), m.key()}}
		}
		return tree.Stmt{Kind: "del", L: []tree.Expr{m.term(lists, 1), m.at(1)}}
	case 6:
		return alone(call("push", m.term(lists, 1), m.any(2)))
	case 7:
		return alone([]tree.Expr{m.called(2), call("pop", m.term(lists, 1)), call("collect", number(int64(m.below(2))))}[m.below(3)])
	case 8, 9:
		return m.leave(p)
	}
	return m.print()
}

func (m *maker) print() tree.Stmt {
	e := call("print")
	for range m.below(4) {
		e.L = append(e.L, m.any(3))
	}
	return alone(e)
}

// leave: what ends a block early; or says something of a name.
func (m *maker) leave(p place) tree.Stmt {
	switch n := m.below(8); {
	case n < 2 && p.looped:
		return tree.Stmt{Kind: m.pick("break continue")}
	case n < 4 && p.inDef:
		return tree.Stmt{Kind: "return", L: []tree.Expr{m.any(3)}[:m.below(2)]}
	case n < 6 && p.inDef:
		return tree.Stmt{Kind: m.pick("global nonlocal"), P: []string{m.pick(all)}}
	case n == 6:
		return tree.Stmt{Kind: "raise", L: []tree.Expr{m.any(2)}}
	}
	return m.print()
}

// around: a statement with blocks.
func (m *maker) around(p place) tree.Stmt {
	in := p.within()
	loop := in
	loop.looped = true
	switch m.below(9) {
	case 0, 1:
		s := tree.Stmt{Kind: "if", L: []tree.Expr{m.truth(2)}, Body: m.block(in)}
		if m.one(2) {
			s.Else = m.block(in)
		}
		return s
	case 2:
		return tree.Stmt{Kind: "while", L: []tree.Expr{m.truth(2)}, Body: m.block(loop)}
	case 3, 4:
		k := []string{lists, lists, dicts, strs}[m.below(4)]
		return tree.Stmt{Kind: "for", Name: m.pick(all), L: []tree.Expr{m.term(k, 2)}, Body: m.block(loop)}
	case 5, 6:
		return tree.Stmt{Kind: "try", Body: m.block(in), Name: m.pick(all), Else: m.block(in)}
	}
	f := m.pick(funcs)
	in.looped, in.inDef = false, true
	s := tree.Stmt{Kind: "def", Name: f, P: m.params(takes(f))}
	for range m.below(3) {
		s.Body = append(s.Body, m.first(m.pick(all)))
	}
	s.Body = append(s.Body, m.block(in)...)
	return s
}
