package mem

import (
	"nurserypy/api"
	"nurserypy/word"
)

// Check a memory.
func (m *Memory) Check() error {
	_, err := m.survey()
	return err
}

// survey checks a memory, and tells where its objects begin: whoever asks for the check goes on with that.
func (m *Memory) survey() (heads, error) {
	if !m.shaped() {
		return nil, api.ErrShape
	}
	h := make(heads, len(m.W))
	if !m.findHeads(h) || !m.holdFields(h) || !h.holdAll(m.Roots) || !h.holdAll(m.Weak) || !h.holdIDs(m.IDs) {
		return nil, api.ErrShape
	}
	if !m.carded() {
		return nil, api.ErrPlace
	}
	return h, nil
}

// shaped tells whether there is a memory whose numbers and lengths fit each other. Numbers that New does not take are
// none of a memory's: so no sum of them runs over.
func (m *Memory) shaped() bool {
	return m != nil && m.bounded() && len(m.W) == m.oldFrom()+m.Old && len(m.Cards) == m.cards() &&
		within(m.Used, 0, 1) && within(m.Top, 0, m.Half) && within(m.OldTop, 0, m.Old)
}

// findHeads notes where objects begin, and tells whether they just fill the used parts, with headers as they may be.
func (m *Memory) findHeads(h heads) bool {
	return m.each(func(at int, o word.Head) bool {
		h[at] = true
		return o.Mark == 0 && (at < m.oldFrom() || o.Age == 0)
	})
}

func (m *Memory) holdFields(h heads) bool {
	return m.each(func(at int, o word.Head) bool { return Raw(o.Kind) || h.holdAll(m.fields(at, o)) })
}

// heads tells of each word of a memory whether an object begins there.
type heads []bool

func (h heads) begins(at int) bool { return at < len(h) && h[at] }

// pointed tells whether a word points to an object.
func (h heads) pointed(w api.Word) bool {
	at, err := word.ToAddr(w)
	return err == nil && h.begins(at)
}

// holds tells whether a word may stand in a root, or in a field of an object that is not raw.
func (h heads) holds(w api.Word) bool {
	switch word.Kind(w) {
	case api.Small:
		return true
	case api.Const:
		_, err := word.ToConst(w)
		return err == nil
	}
	return w == 0 || h.pointed(w)
}

func (h heads) holdAll(l []api.Word) bool {
	for _, w := range l {
		if !h.holds(w) {
			return false
		}
	}
	return true
}

func (h heads) holdIDs(l []ID) bool {
	objects, serials := map[api.Word]int{}, map[int]int{}
	for _, id := range l {
		objects[id.At]++
		serials[id.Serial]++
		if !h.pointed(id.At) || id.Serial < 1 || objects[id.At] > 1 || serials[id.Serial] > 1 {
			return false
		}
	}
	return true
}
