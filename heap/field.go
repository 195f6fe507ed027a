package heap

import (
	"nurserypy/api"
	"nurserypy/mem"
)

// Get a field into a root.
func (h *Heap) Get(r, field, to int) error {
	return h.in.become(to, func() (api.Word, error) {
		at, err := h.in.field(r, field)
		if err != nil {
			return 0, err
		}
		return h.in.W[at], nil
	})
}

// Put a root into a field.
func (h *Heap) Put(r, field, from int) error {
	w, err := h.in.root(from)
	if err != nil {
		return err
	}
	at, err := h.in.field(r, field)
	if err != nil {
		return err
	}
	h.in.W[at] = w
	h.in.Mark(at)
	return nil
}

// field tells where a field lies of the object that a root points to.
func (s *store) field(r, n int) (at int, err error) {
	w, err := s.root(r)
	if err != nil {
		return 0, err
	}
	at, o, ok := s.object(w)
	switch {
	case !ok || mem.Raw(o.Kind):
		return 0, api.ErrShape
	case !within(n, 0, o.Size-1):
		return 0, api.ErrBound
	}
	return at + 1 + n, nil
}
