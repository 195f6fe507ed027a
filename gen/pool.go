package gen

import (
	"nurserypy/code"
	"nurserypy/scope"
	"nurserypy/tree"
)

// A pool is what all Funcs of a code have in common.
type pool struct {
	scopes []scope.Scope
	funcs  []code.Func // of the scopes that began
	ints   numbered[int64]
	strs   numbered[string]
	names  numbered[string] // those that are global
}

// filled: a pool with all that a program needs.
func filled(l []tree.Stmt) (*pool, error) {
	scopes, err := scope.Scopes(l)
	if err != nil {
		return nil, err
	}
	p := &pool{scopes: scopes}
	m := p.begin(nil)
	m.block(l)
	m.do("halt")
	m.finish()
	return p, nil
}

func (p *pool) code() code.Code {
	return code.Code{Funcs: p.funcs, Ints: p.ints.list, Strs: p.strs.list, Names: p.names.list}
}

// begin the Func of the next scope.
func (p *pool) begin(params []string) *maker {
	m := &maker{pool: p, room: furnished(p.scopes[len(p.funcs)], params), number: len(p.funcs)}
	p.funcs = append(p.funcs, m.shell())
	return m
}

// A list in which each thing has one number.
type numbered[T comparable] struct {
	list []T
	at   map[T]int
}

func (l *numbered[T]) number(v T) int {
	n, ok := l.at[v]
	if ok {
		return n
	}
	if l.at == nil {
		l.at = map[T]int{}
	}
	n = len(l.list)
	l.at[v] = n
	l.list = append(l.list, v)
	return n
}
