package walk

import (
	"strconv"
	"strings"

	"nurserypy/api"
	"nurserypy/lex"
)

func str(v any) string {
	if s, ok := v.(string); ok {
		return s
	}
	return repr(v, 1)
}

// repr: the text of a value that, if it is a list or dict, is so deep in what is told.
func repr(v any, deep int) string {
	text := ""
	switch x := v.(type) {
	case nil:
		text = "None"
	case bool:
		text = "False"
		if x {
			text = "True"
		}
	case int64:
		text = strconv.FormatInt(x, 10)
	case string:
		text = lex.Quote(x)
	case *list:
		text = "[" + joined(len(x.items), deep, func(n int) string {
			return repr(x.items[n], deep+1)
		}) + "]"
	case *dict:
		text = "{" + joined(len(x.keys), deep, func(n int) string {
			return repr(x.keys[n], deep+1) + ": " + repr(x.values[n], deep+1)
		}) + "}"
	case *function:
		text = "<function " + x.name + ">"
	case builtin:
		text = "<builtin " + string(x) + ">"
	}
	fits(len(text))
	return text
}

// joined: elements with commas between, given up as soon as they are too long: what else they hold does not matter then.
func joined(among, deep int, element func(int) string) string {
	nest(deep)
	var out strings.Builder
	for n := range among {
		if n > 0 {
			out.WriteString(", ")
		}
		out.WriteString(element(n))
		fits(out.Len())
	}
	return out.String()
}

// nest raises if a list or dict is too deep in what is told or compared.
func nest(deep int) {
	if deep > api.MaxNest {
		panic(raised{recursionError})
	}
}
