package walk

import "nurserypy/rules"

func str(v any) string {
	if s, ok := v.(string); ok {
		return s
	}
	return repr(v, 1)
}

// repr: the text of a value that, if it is a list or dict, is so deep in what is told.
func repr(v any, deep int) string {
	text := ""
	switch x := v.(type) {
	case *list:
		text = "[" + joined(len(x.items), deep, func(n int) string {
			return repr(x.items[n], deep+1)
		}) + "]"
	case *dict:
		text = "{" + joined(len(x.keys), deep, func(n int) string {
			return repr(x.keys[n], deep+1) + ": " + repr(x.values[n], deep+1)
		}) + "}"
	case *function:
		text = "<function " + x.name + ">"
	case builtin:
		text = "<builtin " + string(x) + ">"
	default:
		text = rules.Repr(v)
	}
	ask(rules.Fits(len(text)))
	return text
}

// joined: what stands within the brackets of a list or dict.
func joined(among, deep int, element func(int) string) string {
	ask(rules.Nests(deep))
	return sure(rules.Joined(among, element))
}
