package heap

import (
	"slices"

	"nurserypy/api"
	"nurserypy/mem"
	"nurserypy/word"
)

// Word that a root holds. If it points to an object, it does so until something is made, or collected.
func (h *Heap) Word(r int) (api.Word, error) { return h.in.root(r) }

// Kind of what a root points to.
func (h *Heap) Kind(r int) (int, error) {
	w, err := h.in.root(r)
	if err != nil {
		return 0, err
	}
	_, o, ok := h.in.object(w)
	if !ok {
		return 0, api.ErrShape
	}
	return o.Kind, nil
}

// ToInt tells the int that a root holds.
func (h *Heap) ToInt(r int) (int64, error) {
	w, err := h.in.root(r)
	if err != nil {
		return 0, err
	}
	if at, o, ok := h.in.object(w); ok && o.Kind == BoxKind {
		return int64(h.in.W[at+1]), nil
	}
	return word.ToInt(w)
}

// ToText tells the text that a root holds.
func (h *Heap) ToText(r int) (string, error) {
	w, err := h.in.root(r)
	if err != nil {
		return "", err
	}
	at, o, ok := h.in.object(w)
	if !ok || o.Kind != TextKind {
		return "", api.ErrShape
	}
	return h.in.text(at, o)
}

// Alike tells whether two roots hold the same word, ints that are equal, or texts that are.
func (h *Heap) Alike(r, other int) (bool, error) {
	w, err := h.in.root(r)
	if err != nil {
		return false, err
	}
	v, err := h.in.root(other)
	if err != nil {
		return false, err
	}
	return h.in.alike(w, v), nil
}

// alike tells it of two words. (What is raw is never changed: whoever has the same words is as good.)
func (s *store) alike(w, v api.Word) bool {
	if w == v {
		return true
	}
	at, o, ok := s.object(w)
	if !ok || !mem.Raw(o.Kind) {
		return false
	}
	to, p, ok := s.object(v)
	return ok && o.Kind == p.Kind && slices.Equal(s.fields(at, o), s.fields(to, p))
}

// text is what a text's object means.
func (s *store) text(at int, o word.Head) (string, error) {
	fields := s.fields(at, o)
	return word.Text(fields[1:], int(fields[0]))
}

// fields of an object: they are words of the memory itself.
func (s *store) fields(at int, o word.Head) []api.Word { return s.W[at+1 : at+1+o.Size] }
