package scope

import (
	"nurserypy/api"
	"nurserypy/tree"
)

// find goes through a program, and answers its scopes, if all of it is right.
func find(l []tree.Stmt) (spaces, error) {
	// What has a text is a tree, and small: nothing else needs asking.
	if _, err := tree.Text(l); err != nil {
		return nil, err
	}
	f := finder{wrong: -1}
	f.statements(l, f.open("", nil, -1, 0), false)
	f.askClaims()
	if f.wrong >= 0 {
		return nil, &api.Fault{At: f.wrong, Err: api.ErrName}
	}
	return f.scopes, nil
}

// A finder goes through a program once, in the order of its text, and marks what its scopes have to do with names.
type finder struct {
	scopes spaces
	begun  int // how many statements were
	wrong  int // the first statement that is not right; or -1
	claims []claim
}

// A claim is a name that is said to be `nonlocal`: to whom it belongs may stand behind.
type claim struct {
	at, in int
	name   string
}

func (f *finder) refuse(at int) {
	if f.wrong < 0 || at < f.wrong {
		f.wrong = at
	}
}

// open begins a scope, and answers its number.
func (f *finder) open(name string, params []string, around, at int) int {
	s := &space{Scope: Scope{Name: name, Around: around, Params: len(params)}, marks: map[string]int{}}
	for _, p := range params {
		if s.is(p, bound) {
			f.refuse(at)
		}
		s.bind(p)
	}
	f.scopes = append(f.scopes, s)
	return len(f.scopes) - 1
}

func (f *finder) statements(l []tree.Stmt, in int, looped bool) {
	for _, s := range l {
		f.statement(s, in, looped)
	}
}

func (f *finder) statement(s tree.Stmt, in int, looped bool) {
	at := f.begun
	f.begun++
	f.terms(s.L, in, at)
	switch s.Kind {
	case "set":
		f.scopes[in].bind(s.Name)
	case "for":
		f.scopes[in].bind(s.Name)
		f.statements(s.Body, in, true)
	case "while":
		f.statements(s.Body, in, true)
	case "def":
		f.scopes[in].bind(s.Name)
		f.statements(s.Body, f.open(s.Name, s.P, in, at), false)
	case "if":
		f.statements(s.Body, in, looped)
		f.statements(s.Else, in, looped)
	case "try":
		f.statements(s.Body, in, looped)
		f.scopes[in].bind(s.Name)
		f.statements(s.Else, in, looped)
	default:
		f.word(s, in, at, looped)
	}
}

// word looks at a statement that may not stand everywhere.
func (f *finder) word(s tree.Stmt, in, at int, looped bool) {
	switch s.Kind {
	case "break", "continue":
		if !looped {
			f.refuse(at)
		}
	case "return":
		if in == 0 {
			f.refuse(at)
		}
	case "global":
		f.say(s.P, saidGlobal, in, at)
	case "nonlocal":
		f.say(s.P, saidNonlocal, in, at)
		for _, name := range s.P {
			f.claims = append(f.claims, claim{at: at, in: in, name: name})
		}
	}
}

// say marks names that must be new to the scope: neither bound, nor used, nor said to be anything.
func (f *finder) say(l []string, mark, in, at int) {
	s := f.scopes[in]
	for _, name := range l {
		if in == 0 || s.marks[name] != 0 {
			f.refuse(at)
		}
		s.marks[name] |= mark
	}
}

func (f *finder) terms(l []tree.Expr, in, at int) {
	for _, e := range l {
		within := in
		switch e.Op {
		case "name":
			f.scopes[in].use(e.S)
		case "lambda":
			within = f.open("lambda", e.P, in, at)
		}
		f.terms(e.L, within, at)
	}
}

// askClaims refuses each `nonlocal` of a name that no scope around has but the program. (The scope that says it has it no more.)
func (f *finder) askClaims() {
	for _, c := range f.claims {
		has := func(s *space) bool { return s.belongs(c.name) }
		if f.scopes.nearest(c.in, has) == 0 {
			f.refuse(c.at)
		}
	}
}
