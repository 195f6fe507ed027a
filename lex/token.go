package lex

import (
	"strconv"
	"strings"

	"nurserypy/api"
)

var words = [...]string{
	"and", "break", "continue", "def", "del", "elif", "else", "except", "False",
	"for", "global", "if", "in", "is", "lambda", "None", "nonlocal", "not", "or",
	"pass", "raise", "return", "True", "try", "while",
}

// The longer ones stand first: the first that fits is then the longest.
var ops = [...]string{
	"==", "!=", "<=", ">=", "//",
	"<", ">", "=", "+", "-", "*", "%",
	"(", ")", "[", "]", "{", "}", ",", ":", ".",
}

const hexDigits = "0123456789abcdef"

func isWord(text string) bool {
	for _, w := range words {
		if w == text {
			return true
		}
	}
	return false
}

func isDigit(b byte) bool   { return '0' <= b && b <= '9' }
func isSmall(b byte) bool   { return 'a' <= b && b <= 'z' || b == '_' }
func isCapital(b byte) bool { return 'A' <= b && b <= 'Z' }

func (r *reader) token() {
	from := r.at
	switch first := r.text[from]; {
	case isSmall(first) || isCapital(first):
		kind, text := r.name()
		r.add(kind, text, from)
	case isDigit(first):
		r.add("int", r.digits(), from)
	case first == '"':
		r.add("str", r.quoted(), from)
	default:
		r.add("op", r.op(), from)
	}
}

func (r *reader) name() (kind, text string) {
	from := r.at
	r.at++ // a capital letter may stand here, and nowhere behind
	r.pass(func(b byte) bool { return isSmall(b) || isDigit(b) })
	text = r.text[from:r.at]
	if isWord(text) {
		return "word", text
	}
	if isCapital(text[0]) || len(text) > api.MaxName {
		panic(none(from))
	}
	return "name", text
}

func (r *reader) digits() string {
	from := r.at
	r.pass(isDigit)
	text := r.text[from:r.at]
	if text[0] == '0' && len(text) > 1 {
		panic(none(from))
	}
	if _, err := strconv.ParseInt(text, 10, 64); err != nil {
		panic(none(from))
	}
	return text
}

func (r *reader) op() string {
	for _, o := range ops {
		if strings.HasPrefix(r.text[r.at:], o) {
			r.at += len(o)
			return o
		}
	}
	panic(none(r.at))
}

// quoted reads a str, and answers what it means.
func (r *reader) quoted() string {
	from := r.at
	next := func() byte {
		if r.at == len(r.text) {
			panic(none(from))
		}
		r.at++
		return r.text[r.at-1]
	}
	next() // the quote that opens it
	var meant []byte
	for b := next(); b != '"'; b = next() {
		if b < ' ' || b > '~' {
			panic(none(from))
		}
		if b == '\\' {
			b = escaped(next, from)
		}
		meant = append(meant, b)
	}
	return string(meant)
}

// escaped tells the byte that is meant by what stands behind a backslash, in the str that begins at from.
func escaped(next func() byte, from int) byte {
	switch b := next(); b {
	case 'n':
		return '\n'
	case '"', '\\':
		return b
	case 'x':
		high := strings.IndexByte(hexDigits, next())
		low := strings.IndexByte(hexDigits, next())
		if high >= 0 && low >= 0 {
			return byte(high*16 + low)
		}
	}
	panic(none(from))
}
