package heap

import (
	"strconv"
	"strings"

	"nurserypy/lex"
	"nurserypy/word"
)

// Show the graph.
func (h *Heap) Show() string {
	m := *h.in.Memory
	m.Weak, m.IDs = nil, nil // so that they have no lines
	text, _ := m.Graph()     // no errors: the memory checks
	objects, _ := m.Reached()
	lines := strings.SplitAfter(text, "\n")
	for n, at := range objects {
		if s, raw := h.in.tellRaw(at); raw {
			lines[len(m.Roots)+n] = strconv.Itoa(n) + " " + s + "\n"
		}
	}
	return strings.Join(lines, "")
}

// tellRaw tells an int with a box, or a text, that begins at a word: its kind, and what it means.
func (s *store) tellRaw(at int) (text string, raw bool) {
	o, _ := word.ToHead(s.W[at])
	switch o.Kind {
	case BoxKind:
		text = strconv.FormatInt(int64(s.W[at+1]), 10)
	case TextKind:
		text, _ = s.text(at, o)
		text = lex.Quote(text)
	default:
		return "", false
	}
	return strconv.Itoa(o.Kind) + " " + text, true
}
