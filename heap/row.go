package heap

import (
	"slices"

	"nurserypy/api"
	"nurserypy/mem"
)

// Size tells how many fields there are of what a root points to.
func (h *Heap) Size(r int) (int, error) {
	_, size, err := h.in.made(r)
	return size, err
}

// Find the first, of so many fields from one on, that holds the like of a root (as Alike tells it): -1 if none does.
func (h *Heap) Find(r, from, count, like int) (int, error) {
	w, err := h.in.root(like)
	if err != nil {
		return 0, err
	}
	at, err := h.in.span(r, from, count)
	if err != nil {
		return 0, err
	}
	n := slices.IndexFunc(h.in.W[at:at+count], func(v api.Word) bool { return h.in.alike(w, v) })
	if n < 0 {
		return -1, nil
	}
	return from + n, nil
}

// Move so many fields, from one on, of what another root points to, into those of what a root points to. It may be the
// same object.
func (h *Heap) Move(r, field, other, from, count int) error {
	if _, err := h.in.root(other); err != nil {
		return err
	}
	at, err := h.in.span(r, field, count)
	if err != nil {
		return err
	}
	source, err := h.in.span(other, from, count)
	if err != nil {
		return err
	}
	copy(h.in.W[at:at+count], h.in.W[source:])
	for n := range count {
		h.in.Mark(at + n)
	}
	return nil
}

// span tells where so many fields lie, from one on, of what a root points to.
func (s *store) span(r, from, count int) (at int, err error) {
	at, size, err := s.made(r)
	switch {
	case err != nil:
		return 0, err
	case !within(from, 0, size) || !within(count, 0, size-from):
		return 0, api.ErrBound
	}
	return at + from, nil
}

// made tells where the fields begin, and how many there are, of what a root points to, unless it is raw.
func (s *store) made(r int) (at, size int, err error) {
	w, err := s.root(r)
	if err != nil {
		return 0, 0, err
	}
	at, o, ok := s.object(w)
	if !ok || mem.Raw(o.Kind) {
		return 0, 0, api.ErrShape
	}
	return at + 1, o.Size, nil
}
