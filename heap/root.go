package heap

import (
	"slices"

	"nurserypy/api"
	"nurserypy/word"
)

// Kinds of objects that are raw: ints that have a box, and texts.
const (
	BoxKind  = 1
	TextKind = 2
)

// topRoots is how many roots there may be, once a heap is made.
const topRoots = 64 * api.MaxRoots

// The kinds of objects that Make makes.
const (
	firstKind = 8
	topKind   = 255
)

// Int in a root.
func (h *Heap) Int(r int, n int64) error {
	return h.in.become(r, func() (api.Word, error) {
		if w, err := word.OfInt(n); err == nil {
			return w, nil
		}
		return h.in.lay(BoxKind, api.Word(n))
	})
}

// Const in a root.
func (h *Heap) Const(r, n int) error {
	return h.in.become(r, func() (api.Word, error) { return word.OfConst(n) })
}

// Text in a root.
func (h *Heap) Text(r int, s string) error {
	return h.in.become(r, func() (api.Word, error) {
		if len(s) > api.MaxLength {
			return 0, api.ErrBound
		}
		return h.in.lay(TextKind, append([]api.Word{api.Word(len(s))}, word.Bytes(s)...)...)
	})
}

// Make an object.
func (h *Heap) Make(r, kind, size int) error {
	return h.in.become(r, func() (api.Word, error) {
		if !within(kind, firstKind, topKind) || !within(size, 0, api.MaxFields) {
			return 0, api.ErrBound
		}
		return h.in.lay(kind, slices.Repeat([]api.Word{none}, size)...)
	})
}

// Copy a root.
func (h *Heap) Copy(r, from int) error {
	return h.in.become(r, func() (api.Word, error) { return h.in.root(from) })
}

// Resize: from now on there are so many roots; new ones point nowhere. (There may be more than New makes: whoever keeps a
// stack in them needs as many as it is high.)
func (h *Heap) Resize(roots int) error {
	if !within(roots, 0, topRoots) {
		return api.ErrBound
	}
	l := h.in.Roots
	if more := roots - len(l); more > 0 {
		l = append(l, make([]api.Word, more)...)
	}
	h.in.Roots = l[:roots]
	return nil
}

// become lets a root become what is made for it. A collection on the way gives the memory new roots: the root is looked
// up behind it.
func (s *store) become(r int, made func() (api.Word, error)) error {
	if _, err := s.root(r); err != nil {
		return err
	}
	w, err := made()
	if err != nil {
		return err
	}
	s.Roots[r] = w
	return nil
}

// root tells what a root holds.
func (s *store) root(r int) (api.Word, error) {
	if !within(r, 0, len(s.Roots)-1) {
		return 0, api.ErrPlace
	}
	return s.Roots[r], nil
}
