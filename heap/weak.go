package heap

import (
	"nurserypy/api"
	"nurserypy/mem"
)

// Serial of what a root points to.
func (h *Heap) Serial(r int) (int, error) {
	p, err := h.in.pointer(r)
	if err != nil {
		return 0, err
	}
	for _, id := range h.in.IDs {
		if id.At == p {
			return id.Serial, nil
		}
	}
	h.in.serials++
	h.in.IDs = append(h.in.IDs, mem.ID{At: p, Serial: h.in.serials})
	return h.in.serials, nil
}

// Weak reference to what a root points to.
func (h *Heap) Weak(r int) (int, error) {
	p, err := h.in.pointer(r)
	switch {
	case err != nil:
		return 0, err
	case len(h.in.Weak) >= api.MaxRoots:
		return 0, api.ErrBound
	}
	h.in.Weak = append(h.in.Weak, p)
	return len(h.in.Weak) - 1, nil
}

// Aim a weak reference, gone or not, at what a root points to: so one that is gone can be of use again.
func (h *Heap) Aim(weak, r int) error {
	if !within(weak, 0, len(h.in.Weak)-1) {
		return api.ErrPlace
	}
	p, err := h.in.pointer(r)
	if err != nil {
		return err
	}
	h.in.Weak[weak] = p
	return nil
}

// Look at a weak reference. (A collection makes None of those whose object it lets go.)
func (h *Heap) Look(weak, to int) (bool, error) {
	if !within(weak, 0, len(h.in.Weak)-1) {
		return false, api.ErrPlace
	}
	w := h.in.Weak[weak]
	if err := h.in.become(to, func() (api.Word, error) { return w, nil }); err != nil {
		return false, err
	}
	return w != none, nil
}

// pointer is what a root holds, if it points to an object.
func (s *store) pointer(r int) (api.Word, error) {
	w, err := s.root(r)
	if err != nil {
		return 0, err
	}
	if _, _, ok := s.object(w); !ok {
		return 0, api.ErrShape
	}
	return w, nil
}
