// Package made makes programs and memories up, for tests. The programs mostly do something, for each name is mostly of
// one kind.
package made

import (
	"strings"

	"nurserypy/scope"
	"nurserypy/tree"
)

// Program: the one of this seed. scope.Check takes it.
func Program(seed int) []tree.Stmt {
	m := &maker{state: uint64(seed)*2 + 1}
	for {
		l := m.beginning()
		for range 4 + m.below(8) {
			l = append(l, m.piece(place{deep: 3, most: 3}))
		}
		if scope.Check(l) == nil {
			return l
		}
	}
}

// Names by their kinds. Functions take as many arguments as stands in takes.
const (
	ints  = "i j k"
	strs  = "s t"
	lists = "l m"
	dicts = "d e"
	funcs = "f g h"
	all   = ints + " " + strs + " " + lists + " " + dicts + " " + funcs
)

func takes(name string) int { return strings.Index("fgh", name) }

func kind(name string) string {
	for _, k := range []string{ints, strs, lists, dicts} {
		if strings.Contains(k, name) {
			return k
		}
	}
	return funcs
}

// A maker picks by numbers that hang on its seed alone.
type maker struct {
	state uint64
}

// below: a number from 0 on.
func (m *maker) below(n int) int {
	m.state = m.state*6364136223846793005 + 1442695040888963407
	return int(m.state >> 33 % uint64(n))
}

func (m *maker) one(in int) bool { return m.below(in) == 0 }

func (m *maker) pick(words string) string {
	l := strings.Fields(words)
	return l[m.below(len(l))]
}

func name(s string) tree.Expr { return tree.Expr{Op: "name", S: s} }

func number(n int64) tree.Expr { return tree.Expr{Op: "int", N: n} }

func of(op string, l ...tree.Expr) tree.Expr { return tree.Expr{Op: op, L: l} }

func call(f string, l ...tree.Expr) tree.Expr {
	return of("call", append([]tree.Expr{name(f)}, l...)...)
}

func set(to string, e tree.Expr) tree.Stmt {
	return tree.Stmt{Kind: "set", Name: to, L: []tree.Expr{e}}
}

func alone(e tree.Expr) tree.Stmt {
	return tree.Stmt{Kind: "expr", L: []tree.Expr{e}}
}

// beginning: most names have a value from the beginning.
func (m *maker) beginning() []tree.Stmt {
	var l []tree.Stmt
	for _, s := range strings.Fields(all) {
		if !m.one(20) {
			l = append(l, m.first(s))
		}
	}
	return l
}

// first: a name becomes something of its kind that needs no name.
func (m *maker) first(s string) tree.Stmt {
	if kind(s) != funcs || m.one(8) {
		return set(s, m.plain(kind(s)))
	}
	e := of("lambda", m.any(2))
	e.P = m.params(takes(s))
	return set(s, e)
}

// plain: a term of a kind that needs no name.
func (m *maker) plain(k string) tree.Expr {
	switch k {
	case ints:
		return number([]int64{0, 1, 2, 3, 5, 7, 11, 1 << 61, 1<<62 + 1, 1<<63 - 1}[m.below(5+m.below(6))])
	case strs:
		return tree.Expr{Op: "str", S: m.pick("a b ab \"\n\xff\" \\ , xyz aaaaaaaaaaaaaaaaaaaaaaaaaaa")[m.below(2):]}
	case lists:
		l := of("list")
		for range 1 + m.below(4) {
			l.L = append(l.L, m.plain(m.kind()))
		}
		return l
	case dicts:
		d := of("dict")
		for n := range m.below(4) {
			d.L = append(d.L, number(int64(n)), m.plain(m.kind()))
		}
		return d
	}
	return name(m.pick("len str push pop keys id range input print collect"))
}

func (m *maker) kind() string {
	return []string{ints, ints, ints, strs, strs, lists, dicts, funcs}[m.below(8)]
}

func (m *maker) key() tree.Expr {
	switch m.below(20) {
	case 0:
		return of(m.pick("None True False"))
	case 1, 2:
		return m.plain(strs)
	case 3:
		return name(m.pick(ints + " " + strs))
	}
	return number(int64(m.below(3)))
}
