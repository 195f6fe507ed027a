package code

import (
	"strconv"
	"strings"

	"nurserypy/lex"
)

// Text of code.
func Text(c Code) string {
	var out strings.Builder
	known := shapes()
	for n, f := range c.Funcs {
		line(&out, "func", number(n), named(f.Name), number(f.Params), number(f.Locals), number(f.Cells), number(f.Frees))
		for i, op := range f.Ops {
			out.WriteString("  ")
			if known[op.Name].a == ofNothing {
				line(&out, number(i), op.Name)
			} else {
				line(&out, number(i), op.Name, number(op.A))
			}
		}
	}
	for n, x := range c.Ints {
		line(&out, "int", number(n), strconv.FormatInt(x, 10))
	}
	for n, s := range c.Strs {
		line(&out, "str", number(n), lex.Quote(s))
	}
	for n, s := range c.Names {
		line(&out, "name", number(n), named(s))
	}
	return out.String()
}

func line(out *strings.Builder, words ...string) {
	for i, w := range words {
		if i > 0 {
			out.WriteByte(' ')
		}
		out.WriteString(w)
	}
	out.WriteByte('\n')
}

func number(n int) string { return strconv.Itoa(n) }

// named: a name that is empty would not be seen.
func named(s string) string {
	if s == "" {
		return "-"
	}
	return s
}
