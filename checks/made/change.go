package made

import (
	"slices"

	"nurserypy/api"
	"nurserypy/checks/reading"
	"nurserypy/mem"
)

func changer(m *mem.Memory, seed int) *layer {
	return &layer{maker: maker{state: uint64(seed)*2 + 1}, Memory: m}
}

// Spoil changes one thing of a memory, whatever: which one hangs on the seed.
func Spoil(m *mem.Memory, seed int) {
	l := changer(m, seed)
	numbers := []*int{&m.Half, &m.Old, &m.Card, &m.Used, &m.Top, &m.OldTop}
	switch k := l.below(len(numbers) + 10); k {
	case 0:
		l.spoilWord(m.Roots)
	case 1:
		l.spoilWord(m.Weak)
	case 2:
		if len(m.IDs) > 0 {
			m.IDs[l.below(len(m.IDs))].At = l.anything()
		}
	case 3:
		if len(m.IDs) > 0 {
			m.IDs[l.below(len(m.IDs))].Serial += l.below(5) - 2
		}
	case 4, 5:
		if len(m.Cards) > 0 {
			m.Cards[l.below(len(m.Cards))] = false
		}
	case 6:
		m.W = append(m.W, l.anything())
	case 7:
		m.W[l.below(len(m.W))] ^= 1 << l.below(64)
	case 8, 9:
		l.spoilWord(m.W)
	default:
		*numbers[k-10] += l.below(5) - 2
	}
}

func (l *layer) spoilWord(words []api.Word) {
	if len(words) > 0 {
		words[l.below(len(words))] = l.anything()
	}
}

// anything: a word that may be right where it comes to stand, or not.
func (l *layer) anything() api.Word {
	switch l.below(5) {
	case 0:
		return pointer(l.below(len(l.W) + 3))
	case 1:
		return api.Word(l.below(256)<<2|l.below(4)<<16|l.below(8)<<12) | api.Header
	case 2:
		return api.Word(l.below(20))
	case 3:
		return l.W[l.below(len(l.W))]
	}
	return l.stray()
}

// Step does one thing of those that are done to a memory between two collections: an object is made, or put into
// another one, or taken out of one, or a root lets go of one. The memory must have roots.
func Step(m *mem.Memory, seed int) {
	l := changer(m, seed)
	root := &m.Roots[l.below(len(m.Roots))]
	switch l.below(9) {
	case 0:
		*root = l.atHand()
	case 1:
		m.Weak = append(m.Weak, l.atHand())
	case 2:
		l.name(*root)
	case 3, 4:
		_ = m.Put(*root, l.below(3), l.atHand()) // a root that has no such field stays as it is
	case 5:
		if w, err := m.Get(*root, l.below(3)); err == nil && reading.May(reading.Things(m), w) {
			*root = w
		}
	default:
		fields := []api.Word{l.atHand(), l.atHand(), l.atHand()}[:l.below(4)]
		if p, err := m.Alloc([]int{8, 9, 5}[l.below(3)], fields); err == nil {
			*root = p
		}
	}
}

// atHand: a root, or a word that points to no object.
func (l *layer) atHand() api.Word {
	if l.one(4) {
		return l.value()
	}
	return l.Roots[l.below(len(l.Roots))]
}

// name gives an object a serial, if it has none yet.
func (l *layer) name(p api.Word) {
	next := 1
	for _, id := range l.IDs {
		if id.At == p {
			return
		}
		next = max(next, id.Serial+1)
	}
	if p > 0 && p%4 == api.Pointer {
		l.IDs = append(l.IDs, mem.ID{At: p, Serial: next})
	}
}

// Longer is a copy of a memory behind the lengths of whose lists something lies; untouched tells whether it still does.
func Longer(m *mem.Memory) (longer *mem.Memory, untouched func() bool) {
	c := m.Copy()
	words, ids, cards := slices.Repeat([]api.Word{3}, 7), slices.Repeat([]mem.ID{{At: 3}}, 7), slices.Repeat([]bool{true}, 7)
	c.W, c.Roots, c.Weak = append(c.W, words...), append(c.Roots, words...), append(c.Weak, words...)
	c.IDs, c.Cards = append(c.IDs, ids...), append(c.Cards, cards...)
	whole, lengths := *c, *m
	c.W, c.Roots, c.Weak = c.W[:len(m.W)], c.Roots[:len(m.Roots)], c.Weak[:len(m.Weak)]
	c.IDs, c.Cards = c.IDs[:len(m.IDs)], c.Cards[:len(m.Cards)]
	return c, func() bool {
		return slices.Equal(whole.W[len(lengths.W):], words) && slices.Equal(whole.Roots[len(lengths.Roots):], words) &&
			slices.Equal(whole.Weak[len(lengths.Weak):], words) && slices.Equal(whole.IDs[len(lengths.IDs):], ids) &&
			slices.Equal(whole.Cards[len(lengths.Cards):], cards)
	}
}
