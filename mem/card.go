package mem

import (
	"nurserypy/api"
	"nurserypy/word"
)

// Mark the card of a word, if it must be: if the word is one of the old space, and points into the nursery. (It does
// not ask Check: whoever changes words of a memory by itself calls it behind each of them.)
func (m *Memory) Mark(at int) {
	if m.shaped() && within(at, m.oldFrom(), len(m.W)-1) && m.young(m.W[at]) {
		m.Cards[m.cardOf(at)] = true
	}
}

// Marked tells where the fields lie that may point from the old space into the nursery: fields of objects that are not
// raw, in cards that are marked. (It does not ask Check.)
func (m *Memory) Marked() []int {
	var out []int
	if !m.shaped() {
		return out
	}
	m.eachOldField(func(at int) bool {
		if m.Cards[m.cardOf(at)] {
			out = append(out, at)
		}
		return true
	})
	return out
}

// carded tells whether the card of each field of the old space that points into the nursery is marked.
func (m *Memory) carded() bool {
	return m.eachOldField(func(at int) bool { return !m.young(m.W[at]) || m.Cards[m.cardOf(at)] })
}

// eachOldField hands to do where the fields lie that objects of the old space have which are not raw.
func (m *Memory) eachOldField(do func(at int) bool) bool {
	return m.eachOld(func(at int, o word.Head) bool {
		if Raw(o.Kind) {
			return true
		}
		for i := range o.Size {
			if !do(at + 1 + i) {
				return false
			}
		}
		return true
	})
}

// young tells whether a word points into the nursery.
func (m *Memory) young(w api.Word) bool {
	to, err := word.ToAddr(w)
	return err == nil && to < m.oldFrom()
}

// cardOf is the card of a word of the old space.
func (m *Memory) cardOf(at int) int { return (at - m.oldFrom()) / m.Card }
