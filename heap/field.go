package heap

import "nurserypy/api"

// Get a field into a root.
func (h *Heap) Get(r, field, to int) error {
	return h.in.become(to, func() (api.Word, error) {
		at, err := h.in.field(r, field)
		if err != nil {
			return 0, err
		}
		return h.in.W[at], nil
	})
}

// Put a root into a field.
func (h *Heap) Put(r, field, from int) error {
	w, err := h.in.root(from)
	if err != nil {
		return err
	}
	at, err := h.in.field(r, field)
	if err != nil {
		return err
	}
	h.in.W[at] = w
	h.in.Mark(at)
	return nil
}

// field tells where a field lies of the object that a root points to.
func (s *store) field(r, n int) (at int, err error) {
	at, size, err := s.made(r)
	switch {
	case err != nil:
		return 0, err
	case !within(n, 0, size-1):
		return 0, api.ErrBound
	}
	return at + n, nil
}
