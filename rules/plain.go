package rules

import (
	"strconv"

	"nurserypy/lex"
)

// Plain values hold no others: nil (None), a bool, an int64, a string.

// Repr of a plain value.
func Repr(v any) string {
	switch x := v.(type) {
	case nil:
		return "None"
	case bool:
		if x {
			return "True"
		}
		return "False"
	case int64:
		return strconv.FormatInt(x, 10)
	case string:
		return lex.Quote(x)
	}
	return ""
}

// Truth of a plain value. (Others are true, unless they are empty.)
func Truth(v any) bool { return v != nil && v != false && v != int64(0) && v != "" }
