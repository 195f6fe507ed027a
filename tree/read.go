package tree

import (
	"slices"

	"nurserypy/api"
	"nurserypy/lex"
)

// A reader goes through a program's tokens once; what cannot stand where it is, is thrown.
type reader struct {
	tokens []lex.Token // the last one is an end, and nothing passes it
	at     int
	ranks  [][]string
	blocks int // how many blocks stand around
	deep   int // how many marks of the term stand around that count against MaxDeep
}

func (r *reader) next() lex.Token {
	return r.tokens[r.at]
}

func (r *reader) pass() lex.Token {
	r.at++
	return r.tokens[r.at-1]
}

func (r *reader) throw(err error) {
	panic(&api.Fault{At: r.next().At, Err: err})
}

// need passes a token of that kind.
func (r *reader) need(kind string) lex.Token {
	if r.next().Kind != kind {
		r.throw(api.ErrText)
	}
	return r.pass()
}

func (r *reader) name() string {
	return r.need("name").Text
}

// A mark is an op or a word: what a str or a name holds is none, though it be the same text.
func (r *reader) isMark(texts ...string) bool {
	t := r.next()
	return (t.Kind == "op" || t.Kind == "word") && slices.Contains(texts, t.Text)
}

func (r *reader) passMark(text string) bool {
	found := r.isMark(text)
	if found {
		r.pass()
	}
	return found
}

func (r *reader) needMark(text string) {
	if !r.passMark(text) {
		r.throw(api.ErrText)
	}
}

// several reads one, and others behind commas.
func (r *reader) several(one func()) {
	one()
	for r.passMark(",") {
		one()
	}
}

// upTo reads none, or several, and what closes them.
func (r *reader) upTo(closing string, one func()) {
	if r.passMark(closing) {
		return
	}
	r.several(one)
	r.needMark(closing)
}

func (r *reader) statements(closing string) []Stmt {
	var l []Stmt
	for r.next().Kind != closing {
		l = append(l, r.statement())
	}
	return l
}

func (r *reader) block() []Stmt {
	r.need("newline")
	if r.next().Kind == "indent" && r.blocks == api.MaxDeep {
		r.throw(api.ErrBound)
	}
	r.need("indent")
	r.blocks++
	l := r.statements("dedent")
	r.blocks--
	r.need("dedent")
	return l
}

// blockOf reads the colon ahead of a block, too.
func (r *reader) blockOf() []Stmt {
	r.needMark(":")
	return r.block()
}

func (r *reader) statement() Stmt {
	switch {
	case r.passMark("if"):
		return r.choice()
	case r.passMark("while"):
		return Stmt{Kind: "while", L: r.one(), Body: r.blockOf()}
	case r.passMark("for"):
		return r.each()
	case r.passMark("def"):
		return r.function()
	case r.passMark("try"):
		return r.attempt()
	}
	s := r.line()
	r.need("newline")
	return s
}

// choice reads what stands behind an `if` or an `elif`.
func (r *reader) choice() Stmt {
	s := Stmt{Kind: "if", L: r.one(), Body: r.blockOf()}
	switch {
	case r.passMark("elif"):
		s.Else = []Stmt{r.choice()}
	case r.passMark("else"):
		s.Else = r.blockOf()
	}
	return s
}

func (r *reader) each() Stmt {
	s := Stmt{Kind: "for", Name: r.name()}
	r.needMark("in")
	s.L = r.one()
	s.Body = r.blockOf()
	return s
}

func (r *reader) function() Stmt {
	s := Stmt{Kind: "def", Name: r.name()}
	r.needMark("(")
	r.upTo(")", func() { s.P = append(s.P, r.name()) })
	s.Body = r.blockOf()
	return s
}

func (r *reader) attempt() Stmt {
	s := Stmt{Kind: "try", Body: r.blockOf()}
	r.needMark("except")
	s.Name = r.name()
	s.Else = r.blockOf()
	return s
}

// line reads a statement without a block, up to its newline.
func (r *reader) line() Stmt {
	word := r.next().Text
	switch {
	case r.isMark("break", "continue", "pass"):
		return Stmt{Kind: r.pass().Text}
	case r.isMark("global", "nonlocal"):
		s := Stmt{Kind: r.pass().Text}
		r.several(func() { s.P = append(s.P, r.name()) })
		return s
	case r.passMark("return"):
		if r.next().Kind == "newline" {
			return Stmt{Kind: word}
		}
		return Stmt{Kind: word, L: r.one()}
	case r.passMark("raise"):
		return Stmt{Kind: word, L: r.one()}
	case r.passMark("del"):
		target := r.term()
		if target.Op != "index" {
			r.throw(api.ErrText)
		}
		return Stmt{Kind: word, L: target.L}
	}
	return r.termOrSet()
}

// termOrSet reads a statement that begins with a term. Where a `=` may not follow it, it is left where a newline has to stand. (A name in brackets is a term, and none that can be set.)
func (r *reader) termOrSet() Stmt {
	first := r.next()
	from := r.at
	e := r.term()
	alone := first.Kind == "name" && r.at == from+1
	switch {
	case alone && r.passMark("="):
		return Stmt{Kind: "set", Name: first.Text, L: r.one()}
	case e.Op == "index" && r.passMark("="):
		return Stmt{Kind: "put", L: append(e.L, r.term())}
	}
	return Stmt{Kind: "expr", L: []Expr{e}}
}
