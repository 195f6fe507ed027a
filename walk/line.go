package walk

import (
	"iter"
	"slices"

	"nurserypy/rules"
)

// How it goes on behind a statement.
const (
	onward = iota
	broken
	continued
	returned
)

func (w *walker) block(l []stmt, f *frame) int {
	for n := range l {
		if way := w.statement(&l[n], f); way != onward {
			return way
		}
	}
	return onward
}

func (w *walker) statement(s *stmt, f *frame) int {
	w.step()
	w.begun(Start{Step: w.steps, Stmt: s.number, Deep: w.calls})
	switch s.Kind {
	case "if":
		if truth(w.term(&s.terms[0], f)) {
			return w.block(s.body, f)
		}
		return w.block(s.rest, f)
	case "while":
		return w.while(s, f)
	case "for":
		return w.each(s, f)
	case "try":
		return w.try(s, f)
	case "break":
		return broken
	case "continue":
		return continued
	case "return":
		if len(s.terms) > 0 {
			f.answer = w.term(&s.terms[0], f)
		}
		return returned
	}
	w.do(s, f)
	return onward
}

// do does a statement behind which it always goes on. (pass, global and nonlocal do nothing.)
func (w *walker) do(s *stmt, f *frame) {
	parts := w.terms(s.terms, f)
	switch s.Kind {
	case "set":
		w.become(s.Name, parts[0], f)
	case "put":
		put(parts[0], parts[1], parts[2])
	case "del":
		remove(parts[0], parts[1])
	case "def":
		w.become(s.Name, f.function(s.makes), f)
	case "raise":
		panic(raised{parts[0]})
	}
}

func (w *walker) while(s *stmt, f *frame) int {
	for {
		w.step()
		if !truth(w.term(&s.terms[0], f)) {
			return onward
		}
		switch w.block(s.body, f) {
		case broken:
			return onward
		case returned:
			return returned
		}
	}
}

func (w *walker) each(s *stmt, f *frame) int {
	for v := range elements(w.term(&s.terms[0], f)) {
		w.step()
		w.become(s.Name, v, f)
		switch w.block(s.body, f) {
		case broken:
			return onward
		case returned:
			return returned
		}
	}
	return onward
}

func (w *walker) try(s *stmt, f *frame) int {
	way := onward
	value, caught := w.attempt(func() { way = w.block(s.body, f) })
	if !caught {
		return way
	}
	w.become(s.Name, value, f)
	return w.block(s.rest, f)
}

// elements of what a for goes through. A list is asked anew for each: it may change on the way.
func elements(v any) iter.Seq[any] {
	switch x := v.(type) {
	case *list:
		return func(yield func(any) bool) {
			for n := 0; n < len(x.items) && yield(x.items[n]); n++ {
			}
		}
	case *dict:
		return slices.Values(slices.Clone(x.keys))
	case string:
		return func(yield func(any) bool) {
			for n := 0; n < len(x) && yield(x[n:n+1]); n++ {
			}
		}
	}
	panic(raised{rules.TypeError})
}
