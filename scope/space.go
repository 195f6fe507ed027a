package scope

import (
	"maps"
	"slices"
)

// What a scope has to do with a name.
const (
	bound = 1 << iota
	used
	saidGlobal
	saidNonlocal
	shared // its own, and a scope within uses it
	free
)

// A space is a scope of which it is not yet known whose its names are.
type space struct {
	Scope
	marks map[string]int
	order []string // names, as they were first bound
}

func (s *space) is(name string, mark int) bool {
	return s.marks[name]&mark != 0
}

func (s *space) use(name string) {
	s.marks[name] |= used
}

func (s *space) bind(name string) {
	if !s.is(name, bound) {
		s.order = append(s.order, name)
	}
	s.marks[name] |= bound
}

func (s *space) belongs(name string) bool {
	return s.is(name, bound) && !s.is(name, saidGlobal|saidNonlocal)
}

func (s *space) names() []string {
	return slices.Sorted(maps.Keys(s.marks))
}

// told: the scope, once it is known whose its names are. The program's own names are global, and told nowhere.
func (s *space) told() Scope {
	out := Scope{Name: s.Name, Around: s.Around, Params: s.Params}
	if s.Around < 0 {
		return out
	}
	for _, name := range s.order {
		switch {
		case !s.belongs(name):
		case s.is(name, shared):
			out.Cells = append(out.Cells, name)
		default:
			out.Locals = append(out.Locals, name)
		}
	}
	for _, name := range s.names() {
		if s.is(name, free) {
			out.Frees = append(out.Frees, name)
		}
	}
	return out
}

// Spaces of a program: the program itself is the first.
type spaces []*space

// nearest: the number of the nearest scope around, that one first, that is as asked. The program is not asked: it is told where no other one is.
func (l spaces) nearest(from int, asked func(*space) bool) int {
	for from > 0 && !asked(l[from]) {
		from = l[from].Around
	}
	return from
}

// owner: the number of the scope whose name it is; of a global one that of the program.
func (l spaces) owner(in int, name string) int {
	n := l.nearest(in, func(s *space) bool {
		return s.belongs(name) || s.is(name, saidGlobal)
	})
	if l[n].is(name, saidGlobal) {
		return 0
	}
	return n
}

// settle marks which names are shared, and which are free. All that a scope has to do with a name counts as a use here: binding one that is another scope's needs it, and so does `nonlocal`.
func (l spaces) settle() {
	for in, s := range l {
		for _, name := range s.names() {
			owner := l.owner(in, name)
			if owner == 0 || owner == in {
				continue
			}
			l[owner].marks[name] |= shared
			for n := in; n != owner; n = l[n].Around {
				l[n].marks[name] |= free
			}
		}
	}
}
