package mem_test

import (
	"math"
	"testing"

	"nurserypy/api"
	"nurserypy/checks/reading"
	"nurserypy/mem"
)

// laid: the memory that the tables of this file change. Its objects: in the nursery's second half a pair at 12 and a
// raw one at 15; in the old space, from 24 on, a triple at 24, a raw one at 28, one without fields at 31, a single one
// at 32. Cards are of 4 words: 24 to 27, 28 to 31, 32 to 35, ..
func laid(t *testing.T) *mem.Memory {
	t.Helper()
	m := fresh(t, 12, 20, 4)
	m.Used = 1
	alloc(t, m, 8, small(5), none)
	alloc(t, m, 7, 3, math.MaxUint64)
	lay(m, 9, ptr(12), nowhere, trueWord)
	lay(m, 0, ptr(12), 77)
	lay(m, 255)
	lay(m, 8, ptr(24))
	m.Cards[0] = true
	m.Roots = []api.Word{ptr(24), small(-1), falseWord, nowhere, ptr(15)}
	m.Weak = []api.Word{ptr(31), none, small(3), nowhere}
	m.IDs = []mem.ID{{At: ptr(32), Serial: 9}, {At: ptr(12), Serial: 1}}
	return m
}

func TestRight(t *testing.T) {
	for i, how := range []func(m *mem.Memory){
		func(m *mem.Memory) {},
		func(m *mem.Memory) { m.Roots, m.Weak, m.IDs = nil, nil, nil },
		func(m *mem.Memory) { m.W[12] = aged(8, 2, 15) },
		func(m *mem.Memory) { m.W[0], m.W[11], m.W[18], m.W[43] = 3, math.MaxUint64, 9, 14 }, // words that are not used
		func(m *mem.Memory) { m.Cards[1], m.Cards[2], m.Cards[3], m.Cards[4] = true, true, true, true },
		func(m *mem.Memory) { m.Cards[0], m.W[25] = false, ptr(24) },
		func(m *mem.Memory) { m.Cards[0], m.W[25] = false, nowhere },
		func(m *mem.Memory) { m.W[29], m.W[30] = ptr(13), 14 }, // raw
		func(m *mem.Memory) { m.W[13] = ptr(12) },
		func(m *mem.Memory) { m.W[13] = ptr(32) },
		func(m *mem.Memory) { m.Roots = append(m.Roots, m.Roots...) },
		func(m *mem.Memory) { m.Weak = append(m.Weak, m.Weak...) },
		func(m *mem.Memory) { m.Roots = []api.Word{small(api.MaxSmall - 1), small(-api.MaxSmall)} },
		func(m *mem.Memory) { m.IDs[0].Serial = math.MaxInt },
		func(m *mem.Memory) {
			m.W[12], m.W[15] = head(8, 0), head(0, 2)
			m.W[13], m.W[14] = head(0, 0), head(8, 0)
		},
		func(m *mem.Memory) { m.Top, m.W[18] = 12, head(8, 5); clear(m.W[19:24]) },
		func(m *mem.Memory) { m.OldTop, m.W[34] = 20, head(8, 9); clear(m.W[35:]) },
	} {
		m := laid(t)
		how(m)
		if err := m.Check(); err != nil {
			t.Errorf("%d: %v", i, err)
		}
	}
}

func TestWrongLengths(t *testing.T) {
	for i, how := range []func(m *mem.Memory){
		func(m *mem.Memory) { m.W = m.W[:43] },
		func(m *mem.Memory) { m.W = append(m.W, 0) },
		func(m *mem.Memory) { m.W = nil },
		func(m *mem.Memory) { m.Cards = m.Cards[:4] },
		func(m *mem.Memory) { m.Cards = append(m.Cards, false) },
		func(m *mem.Memory) { m.Cards = nil },
		func(m *mem.Memory) { m.Half = 11 },
		func(m *mem.Memory) { m.Half, m.Old = 11, 22 },
		func(m *mem.Memory) { m.Half, m.Old = 13, 18 },
		func(m *mem.Memory) { m.Half, m.Old = 22, 0 },
		func(m *mem.Memory) { m.Half, m.Old = 0, 44 },
		func(m *mem.Memory) { m.Half, m.Old = -12, 68 },
		func(m *mem.Memory) { m.Half, m.Old = 1<<62+12, 20-1<<63 },
		func(m *mem.Memory) { m.Half, m.Old = math.MinInt, 44 }, // the sum runs over, and is 44
		func(m *mem.Memory) { m.Old = 21 },
		func(m *mem.Memory) { m.Card = 0 },
		func(m *mem.Memory) { m.Card = -4 },
		func(m *mem.Memory) { m.Card = math.MinInt },
		func(m *mem.Memory) { m.Card = math.MaxInt },
		func(m *mem.Memory) { m.Card = 3 },
		func(m *mem.Memory) { m.Card, m.Cards = 1025, []bool{true} },
		func(m *mem.Memory) { m.Card = 5 },
		func(m *mem.Memory) { m.Used = 2 },
		func(m *mem.Memory) { m.Used = -1 },
		func(m *mem.Memory) { m.Used = math.MaxInt },
		func(m *mem.Memory) { m.Used = 0 },
		func(m *mem.Memory) { m.Top = -1 },
		func(m *mem.Memory) { m.Top = math.MaxInt },
		func(m *mem.Memory) { m.Top = math.MinInt },
		func(m *mem.Memory) { m.Top, m.W[18] = 13, head(8, 6); clear(m.W[19:24]) },
		func(m *mem.Memory) { m.OldTop = -1 },
		func(m *mem.Memory) { m.OldTop = 21 },
		func(m *mem.Memory) { m.OldTop = math.MaxInt },
		func(m *mem.Memory) { m.OldTop = math.MinInt },
	} {
		m := laid(t)
		how(m)
		if err := m.Check(); err != api.ErrShape {
			t.Errorf("%d: %v", i, err)
		}
	}
}

func TestWrongObjects(t *testing.T) {
	for i, how := range []func(m *mem.Memory){
		func(m *mem.Memory) { m.Top = 5 },
		func(m *mem.Memory) { m.Top = 4 },
		func(m *mem.Memory) { m.Top, m.W[18] = 7, 0 },
		func(m *mem.Memory) { m.OldTop = 9 },
		func(m *mem.Memory) { m.OldTop, m.W[34] = 11, small(1) },
		func(m *mem.Memory) { m.W[12] = head(8, 1) },
		func(m *mem.Memory) { m.W[15] = head(7, 3) },
		func(m *mem.Memory) { m.W[32] = head(8, 2) },
		func(m *mem.Memory) { m.W[32] = head(8, 4096) },
		func(m *mem.Memory) { m.W[12] |= 1 << 14 },
		func(m *mem.Memory) { m.W[15] |= 1 << 14 },
		func(m *mem.Memory) { m.W[31] |= 1 << 14 },
		func(m *mem.Memory) { m.W[24] |= 1 << 15 },
		func(m *mem.Memory) { m.W[12] |= 1 << 40 },
		func(m *mem.Memory) { m.W[31] |= 1 << 63 },
		func(m *mem.Memory) { m.W[24] |= 1 << 10 },
		func(m *mem.Memory) { m.W[28] |= 15 << 10 },
		func(m *mem.Memory) { m.W[32] |= 8 << 10 },
		func(m *mem.Memory) { m.W[12] = none },
		func(m *mem.Memory) { m.W[12] = nowhere },
		func(m *mem.Memory) { m.W[24] = small(3) },
		func(m *mem.Memory) { m.W[31] = ptr(24) },
	} {
		m := laid(t)
		how(m)
		if err := m.Check(); err != api.ErrShape {
			t.Errorf("%d: %v", i, err)
		}
	}
}

// Words that may stand neither in a field, nor in a root.
func strays() []api.Word {
	return []api.Word{
		14, 18, none | 1<<63, trueWord | 1<<5, // constants that there are not
		3, head(8, 1), math.MaxUint64, // headers
		ptr(0), ptr(11), ptr(13), ptr(14), ptr(16), ptr(17), ptr(18), ptr(23), // in the nursery, but no header
		ptr(25), ptr(29), ptr(33), ptr(34), ptr(43), // in the old space
		ptr(44), ptr(1 << 20), ptr(1 << 40), ptr(1<<40 + 1), 1 << 63, math.MaxUint64 - 3,
	}
}

func TestWrongWords(t *testing.T) {
	for _, w := range strays() {
		for i, how := range []func(m *mem.Memory){
			func(m *mem.Memory) { m.W[14] = w },
			func(m *mem.Memory) { m.W[25] = w },
			func(m *mem.Memory) { m.W[27] = w },
			func(m *mem.Memory) { m.W[33] = w },
			func(m *mem.Memory) { m.Roots = []api.Word{w} },
			func(m *mem.Memory) { m.Roots[4] = w },
			func(m *mem.Memory) { m.Weak = []api.Word{w} },
			func(m *mem.Memory) { m.Weak[3] = w },
			func(m *mem.Memory) { m.IDs[1].At = w },
			func(m *mem.Memory) { m.Cards[0], m.Weak[0] = false, w },
		} {
			m := laid(t)
			how(m)
			if err := m.Check(); err != api.ErrShape {
				t.Errorf("%#x, %d: %v", w, i, err)
			}
		}
	}
}

func TestWrongIDs(t *testing.T) {
	for i, l := range [][]mem.ID{
		{{}},
		{{At: ptr(12)}},
		{{At: ptr(12), Serial: -1}},
		{{At: ptr(12), Serial: math.MinInt}},
		{{At: nowhere, Serial: 1}},
		{{At: none, Serial: 1}},
		{{At: small(12), Serial: 1}},
		{{At: ptr(12), Serial: 1}, {At: ptr(12), Serial: 2}},
		{{At: ptr(12), Serial: 1}, {At: ptr(24), Serial: 1}},
		{{At: ptr(12), Serial: 1}, {At: ptr(24), Serial: 2}, {At: ptr(15), Serial: 3}, {At: ptr(12), Serial: 4}},
		{{At: ptr(12), Serial: 4}, {At: ptr(24), Serial: 2}, {At: ptr(15), Serial: 3}, {At: ptr(28), Serial: 4}},
		{{At: ptr(12), Serial: 1}, {At: ptr(12), Serial: 1}},
	} {
		m := laid(t)
		m.IDs = l
		if err := m.Check(); err != api.ErrShape {
			t.Errorf("%d: %v", i, err)
		}
	}
	m := laid(t)
	m.IDs = []mem.ID{{At: ptr(28), Serial: 4}, {At: ptr(31), Serial: 3}, {At: ptr(15), Serial: 2}}
	if err := m.Check(); err != nil {
		t.Error(err)
	}
}

func TestBareCards(t *testing.T) {
	for i, how := range []func(m *mem.Memory){
		func(m *mem.Memory) { m.Cards[0] = false },
		func(m *mem.Memory) { m.Cards = []bool{false, true, true, true, true} },
		func(m *mem.Memory) { m.Cards[0], m.W[25], m.W[27] = false, nowhere, ptr(15) },
		func(m *mem.Memory) { m.W[33] = ptr(12) },
		func(m *mem.Memory) { m.W[33], m.Cards[1] = ptr(12), true },
		func(m *mem.Memory) { m.W[28] = head(8, 2); m.W[30] = nowhere }, // what was raw is no more
	} {
		m := laid(t)
		how(m)
		if err := m.Check(); err != api.ErrPlace {
			t.Errorf("%d: %v", i, err)
		}
		m.Roots = append(m.Roots, 3) // ErrShape comes first
		if err := m.Check(); err != api.ErrShape {
			t.Errorf("%d, spoilt: %v", i, err)
		}
	}
}

// The card of a field is the one in which the field lies, not that of its header: each field, for each size of a card.
func TestCardOfField(t *testing.T) {
	for card := 1; card <= 21; card++ {
		for field := range 19 {
			m := fresh(t, 3, 20, card)
			young := alloc(t, m, 8)
			l := make([]api.Word, 19)
			l[field] = young
			lay(m, 8, l...)
			for i := range m.Cards {
				m.Cards[i] = true
			}
			m.Cards[(field+1)/card] = false
			if err := m.Check(); err != api.ErrPlace {
				t.Errorf("card of %d, field %d: %v", card, field, err)
			}
			clear(m.Cards)
			m.Cards[(field+1)/card] = true
			if err := m.Check(); err != nil {
				t.Errorf("card of %d, field %d: %v", card, field, err)
			}
		}
	}
}

// P81: all calls ask Check first, ahead of whatever else is wrong, and change nothing then.
func TestCheckedFirst(t *testing.T) {
	for want, how := range map[error]func(m *mem.Memory){
		api.ErrPlace: func(m *mem.Memory) { m.Cards[0] = false },
		api.ErrShape: func(m *mem.Memory) { m.Weak[0] = 3 },
	} {
		m := laid(t)
		how(m)
		whole := plainly(m)
		for _, kind := range []int{8, 0, 256} {
			if p, err := m.Alloc(kind, []api.Word{14}); p != 0 || err != want {
				t.Error(kind, p, err)
			}
		}
		for _, p := range []api.Word{ptr(12), ptr(13), none} {
			for _, field := range []int{0, 7} {
				if w, err := m.Get(p, field); w != 0 || err != want {
					t.Error(p, field, w, err)
				}
				if err := m.Put(p, field, small(1)); err != want {
					t.Error(p, field, err)
				}
			}
		}
		if s, err := m.Graph(); s != "" || err != want {
			t.Error(s, err)
		}
		if n, err := m.Live(); n != 0 || err != want {
			t.Error(n, err)
		}
		if !reading.Same(m, &whole) {
			t.Error(want, "changed")
		}
	}
}
