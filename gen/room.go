package gen

import (
	"slices"

	"nurserypy/code"
	"nurserypy/scope"
)

// A room is a scope that knows where its names lie.
type room struct {
	scope.Scope
	params []string
	places map[string]place // those that are not global
	locals int
}

// A place of a name.
type place struct {
	celled bool // it is a cell, its own or a free one, not a local
	at     int
}

func furnished(s scope.Scope, params []string) room {
	r := room{Scope: s, params: params, places: map[string]place{}}
	// Arguments come as locals, also those that are to be in cells.
	for _, name := range slices.Concat(params, s.Locals) {
		if _, ok := r.places[name]; !ok {
			r.places[name] = place{at: r.locals}
			r.locals++
		}
	}
	for n, name := range slices.Concat(s.Cells, s.Frees) {
		r.places[name] = place{celled: true, at: n}
	}
	return r
}

// shell: its Func, without ops.
func (r *room) shell() code.Func {
	return code.Func{Name: r.Name, Params: r.Params, Locals: r.locals, Cells: len(r.Cells), Frees: len(r.Frees)}
}
