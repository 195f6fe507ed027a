// Package lex: words of a program: see ../shared/doc/01-lex.md.
package lex

import "nurserypy/api"

// Token of a program.
type Token struct {
	Kind, Text string
	At         int
}

// Lex a program.
func Lex(s string) (l []Token, err error) {
	if len(s) > api.MaxSource {
		return nil, api.ErrBound
	}
	defer func() {
		thrown := recover()
		if thrown == nil {
			return
		}
		fault, ok := thrown.(*api.Fault)
		if !ok {
			panic(thrown)
		}
		l, err = nil, fault
	}()
	r := reader{text: s, open: []int{0}}
	for r.at < len(s) {
		r.line()
	}
	r.settle(0)
	r.add("end", "", r.at)
	return r.tokens, nil
}

// none is what is thrown where a token would have to begin, and none does.
func none(at int) *api.Fault {
	return &api.Fault{At: at, Err: api.ErrText}
}

// A reader goes through a program once, from its first byte to its last.
type reader struct {
	text   string
	at     int
	open   []int // the indentations that are open, rising; 0 is never closed
	tokens []Token
}

func (r *reader) add(kind, text string, at int) {
	r.tokens = append(r.tokens, Token{Kind: kind, Text: text, At: at})
}

// pass goes over wanted bytes, as many as there are, and answers how many.
func (r *reader) pass(wanted func(byte) bool) int {
	from := r.at
	for r.at < len(r.text) && wanted(r.text[r.at]) {
		r.at++
	}
	return r.at - from
}

func (r *reader) passBlanks() int {
	return r.pass(func(b byte) bool { return b == ' ' })
}

// lineEnds goes over a comment first, so that what is behind it is a line's end.
func (r *reader) lineEnds() bool {
	if r.at < len(r.text) && r.text[r.at] == '#' {
		r.pass(func(b byte) bool { return b != '\n' })
	}
	return r.at == len(r.text) || r.text[r.at] == '\n'
}

func (r *reader) line() {
	indentation := r.passBlanks()
	if !r.lineEnds() {
		r.settle(indentation)
		r.token()
		for r.passBlanks(); !r.lineEnds(); r.passBlanks() {
			r.token()
		}
		r.add("newline", "", r.at)
	}
	if r.at < len(r.text) {
		r.at++
	}
}

// settle tells how a line's indentation differs from that of the line ahead.
func (r *reader) settle(indentation int) {
	if indentation > r.innermost() {
		r.open = append(r.open, indentation)
		r.add("indent", "", r.at)
		return
	}
	for indentation < r.innermost() {
		r.open = r.open[:len(r.open)-1]
		r.add("dedent", "", r.at)
	}
	if indentation != r.innermost() {
		panic(none(r.at))
	}
}

func (r *reader) innermost() int {
	return r.open[len(r.open)-1]
}
