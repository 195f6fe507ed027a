package mem

import (
	"nurserypy/api"
	"nurserypy/word"
)

// Alloc an object.
func (m *Memory) Alloc(kind int, fields []api.Word) (api.Word, error) {
	h, err := m.survey()
	if err != nil {
		return 0, err
	}
	o := word.Head{Kind: kind, Size: len(fields)}
	head, err := word.OfHead(o)
	switch {
	case err != nil:
		return 0, err
	case !Raw(kind) && !h.holdAll(fields):
		return 0, api.ErrShape
	case words(o) > m.Half-m.Top:
		return 0, api.ErrFull
	}
	at := m.nursery() + m.Top
	// Fields may be words of this very memory: they go ahead of the header, which could lie upon them.
	copy(m.W[at+1:], fields)
	m.W[at] = head
	m.Top += words(o)
	return word.OfAddr(at)
}

// Get a field.
func (m *Memory) Get(p api.Word, field int) (api.Word, error) {
	h, err := m.survey()
	if err != nil {
		return 0, err
	}
	at, _, err := m.place(h, p, field)
	if err != nil {
		return 0, err
	}
	return m.W[at], nil
}

// Put a field.
func (m *Memory) Put(p api.Word, n int, w api.Word) error {
	h, err := m.survey()
	if err != nil {
		return err
	}
	at, kind, err := m.place(h, p, n)
	switch {
	case err != nil:
		return err
	case Raw(kind) || !h.holds(w):
		return api.ErrShape
	}
	m.W[at] = w
	m.Mark(at)
	return nil
}

// place tells where a field of the object lies that p points to, and the object's kind.
func (m *Memory) place(h heads, p api.Word, field int) (at, kind int, err error) {
	at, o, ok := m.object(h, p)
	switch {
	case !ok:
		return 0, 0, api.ErrPlace
	case !within(field, 0, o.Size-1):
		return 0, 0, api.ErrBound
	}
	return at + 1 + field, o.Kind, nil
}
