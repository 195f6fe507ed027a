package lex

import (
	"strings"

	"nurserypy/api"
)

// Text of tokens.
func Text(l []Token) (string, error) {
	s, fits := written(l)
	if !fits {
		return "", api.ErrShape
	}
	// Tokens may hold any bytes, in any order: whether they are a program's shows when it is read.
	again, err := Lex(s)
	if err != nil || !sameTokens(l, again) {
		return "", api.ErrShape
	}
	return s, nil
}

func sameTokens(a, b []Token) bool {
	if len(a) != len(b) {
		return false
	}
	for i, t := range a {
		if t.Kind != b[i].Kind || t.Text != b[i].Text {
			return false
		}
	}
	return true
}

// written lays tokens out as a program, without asking whether they are one, and stops as soon as it is too long.
func written(l []Token) (s string, fits bool) {
	var out strings.Builder
	depth, begun := 0, false
	for _, t := range l {
		switch t.Kind {
		case "end":
		case "indent":
			depth++
		case "dedent":
			depth--
		case "newline":
			out.WriteByte('\n')
			begun = false
		default:
			out.WriteString(gap(depth, begun))
			out.WriteString(spelt(t))
			begun = true
		}
		if depth < 0 || depth > api.MaxSource || out.Len() > api.MaxSource {
			return "", false
		}
	}
	return out.String(), true
}

// gap is what stands ahead of a token in its line.
func gap(depth int, begun bool) string {
	if begun {
		return " "
	}
	return strings.Repeat("    ", depth)
}

func spelt(t Token) string {
	if t.Kind == "str" {
		return Quote(t.Text)
	}
	return t.Text
}

// Quote writes a str as short as it can be.
func Quote(s string) string {
	var out strings.Builder
	out.WriteByte('"')
	for i := range len(s) {
		switch b := s[i]; {
		case b == '\n':
			out.WriteString(`\n`)
		case b == '"' || b == '\\':
			out.WriteByte('\\')
			out.WriteByte(b)
		case b < ' ' || b > '~':
			out.WriteString(`\x`)
			out.WriteByte(hexDigits[b>>4])
			out.WriteByte(hexDigits[b&15])
		default:
			out.WriteByte(b)
		}
	}
	out.WriteByte('"')
	return out.String()
}
