package made

import "nurserypy/tree"

// any: a term of some kind.
func (m *maker) any(deep int) tree.Expr {
	if m.one(4) {
		return m.truth(deep)
	}
	return m.term(m.kind(), deep)
}

// term: mostly of this kind.
func (m *maker) term(k string, deep int) tree.Expr {
	if m.one(40) {
		k = m.kind()
	}
	switch {
	case m.one(60):
		return of(m.pick("None True False"))
	case deep <= 0 && m.one(3):
		return m.plain(k)
	case deep <= 0 || m.one(4):
		return name(m.pick(k))
	case m.one(12):
		return of(m.pick("and or"), m.any(deep-1), m.term(k, deep-1))
	case m.one(12):
		return m.called(deep)
	case m.one(10):
		return m.indexed(deep)
	}
	switch k {
	case ints:
		return m.int(deep)
	case strs:
		return m.str(deep)
	case lists:
		return m.list(deep)
	case dicts:
		return m.dict(deep)
	}
	return m.function(deep)
}

func (m *maker) int(deep int) tree.Expr {
	switch m.below(8) {
	case 0:
		return of("neg", m.term(ints, deep-1))
	case 1:
		return call("len", m.term([]string{strs, lists, dicts}[m.below(3)], deep-1))
	case 2:
		return call("id", m.term([]string{lists, dicts, funcs}[m.below(3)], deep-1))
	case 3:
		return m.plain(ints)
	}
	return of(m.pick("+ + - - * // %"), m.term(ints, deep-1), m.term(ints, deep-1))
}

func (m *maker) str(deep int) tree.Expr {
	switch m.below(6) {
	case 0:
		return m.plain(strs)
	case 1:
		return call("input")
	case 2, 3:
		return call("str", m.any(deep-1))
	}
	return of("+", m.term(strs, deep-1), m.term(strs, deep-1))
}

func (m *maker) list(deep int) tree.Expr {
	switch m.below(5) {
	case 0:
		return call("range", of("%", m.term(ints, deep-1), number(5)))
	case 1:
		return call("keys", m.term(dicts, deep-1))
	case 2:
		return of("+", m.term(lists, deep-1), m.term(lists, deep-1))
	}
	l := of("list")
	for range m.below(4) {
		l.L = append(l.L, m.any(deep-1))
	}
	return l
}

func (m *maker) dict(deep int) tree.Expr {
	d := of("dict")
	for range m.below(4) {
		d.L = append(d.L, m.key(), m.any(deep-1))
	}
	return d
}

func (m *maker) function(deep int) tree.Expr {
	if m.one(4) {
		return m.plain(funcs)
	}
	e := of("lambda", m.any(deep-1))
	e.P = m.params(m.below(3))
	return e
}

// params: names, none of them twice.
func (m *maker) params(n int) []string {
	var l []string
	for _, k := range []string{ints, strs + " " + dicts, lists + " " + funcs}[:n] {
		l = append(l, m.pick(k))
	}
	return l
}

func (m *maker) truth(deep int) tree.Expr {
	if deep <= 0 {
		return of(m.pick("True False None"))
	}
	switch m.below(8) {
	case 0:
		return of("not", m.any(deep-1))
	case 1:
		return of("in", m.any(deep-1), m.term(lists, deep-1))
	case 2:
		return of("in", m.key(), m.term(dicts, deep-1))
	case 3:
		return of("in", m.term(strs, deep-1), m.term(strs, deep-1))
	case 4:
		k := m.kind()
		return of(m.pick("== != is"), m.term(k, deep-1), m.term(k, deep-1))
	case 5:
		return of(m.pick("and or"), m.truth(deep-1), m.truth(deep-1))
	}
	k := []string{ints, ints, strs}[m.below(3)]
	return of(m.pick("< <= > >= =="), m.term(k, deep-1), m.term(k, deep-1))
}

// called: a call of a function, mostly with the right number of arguments.
func (m *maker) called(deep int) tree.Expr {
	f := m.pick(funcs)
	e := call(f)
	n := takes(f)
	if m.one(20) {
		n++
	}
	for range n {
		e.L = append(e.L, m.any(deep-1))
	}
	return e
}

func (m *maker) indexed(deep int) tree.Expr {
	switch m.below(3) {
	case 0:
		return of("index", m.term(dicts, deep-1), m.key())
	case 1:
		return of("index", m.term(strs, deep-1), m.at(deep))
	}
	return of("index", m.term(lists, deep-1), m.at(deep))
}

// at: an index that is mostly small.
func (m *maker) at(deep int) tree.Expr {
	switch m.below(4) {
	case 0:
		return of("neg", number(1))
	case 1:
		return m.term(ints, deep-1)
	}
	return number(int64(m.below(2)))
}
