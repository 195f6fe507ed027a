package major_test

import (
	"math"
	"slices"
	"testing"

	"nurserypy/api"
	"nurserypy/checks/reading"
	"nurserypy/major"
	"nurserypy/mem"
	"nurserypy/minor"
)

// Words as P70 writes them.
const (
	nowhere   api.Word = 0
	none      api.Word = 2
	falseWord api.Word = 6
	trueWord  api.Word = 10
)

func ptr(at int) api.Word { return api.Word(at+1) * 4 }

func small(n int64) api.Word { return api.Word(n*4 + 1) }

func head(kind, size int) api.Word { return api.Word(kind*4 + size*65536 + 3) }

func aged(kind, size, age int) api.Word { return head(kind, size) + api.Word(age*1024) }

func fresh(t *testing.T, half, old, card int) *mem.Memory {
	t.Helper()
	m, err := mem.New(half, old, card)
	if err != nil {
		t.Fatal(err)
	}
	return m
}

func alloc(t *testing.T, m *mem.Memory, kind int, fields ...api.Word) api.Word {
	t.Helper()
	p, err := m.Alloc(kind, fields)
	if err != nil {
		t.Fatal(err)
	}
	return p
}

// lay writes an object to the old space's top: a pointer to it. Its cards are marked where they must be.
func lay(m *mem.Memory, kind int, fields ...api.Word) api.Word {
	at := 2*m.Half + m.OldTop
	m.W[at] = head(kind, len(fields))
	copy(m.W[at+1:], fields)
	m.OldTop += 1 + len(fields)
	for i, must := range reading.Needed(m) {
		m.Cards[i] = m.Cards[i] || must
	}
	return ptr(at)
}

func put(t *testing.T, m *mem.Memory, p api.Word, field int, w api.Word) {
	t.Helper()
	if err := m.Put(p, field, w); err != nil {
		t.Fatal(err)
	}
}

// collect does so, and holds what came of it against P100 and P102.
func collect(t *testing.T, m *mem.Memory) {
	t.Helper()
	before := m.Copy()
	if err := major.Collect(m); err != nil {
		t.Fatal(err)
	}
	held(t, before, m)
}

// refused: the error, bare, and nothing is done.
func refused(t *testing.T, m *mem.Memory, want error) {
	t.Helper()
	before := m.Copy()
	if err := major.Collect(m); err != want {
		t.Errorf("%v, want %v", err, want)
	}
	if !reading.Same(m, before) {
		t.Errorf("%v, and changed", want)
	}
}

// oldWords: those of the old space that are used.
func oldWords(m *mem.Memory) []api.Word { return m.W[2*m.Half : 2*m.Half+m.OldTop] }

func TestEmpty(t *testing.T) {
	for used := range 2 {
		m := fresh(t, 3, 1, 1)
		m.Used = used
		m.Roots = []api.Word{nowhere, none, falseWord, trueWord, small(-7)}
		want := m.Copy()
		collect(t, m)
		if !reading.Same(m, want) {
			t.Error(used, m)
		}
	}
}

// Where nothing is come to, nothing stays: neither for Weak, nor for IDs, nor for what marked cards are about.
func TestNothingIsReached(t *testing.T) {
	for card := 1; card <= 9; card++ {
		m := fresh(t, 9, 9, card)
		a := alloc(t, m, 8, none)
		b := alloc(t, m, 8, a)
		c := lay(m, 9, b, small(1))
		d := lay(m, 9, c, a)
		for i := range m.Cards {
			m.Cards[i] = true
		}
		m.Weak = []api.Word{a, b, c, d, none, small(4), nowhere}
		m.IDs = []mem.ID{{At: d, Serial: 1}, {At: a, Serial: 2}}
		collect(t, m)
		if m.Top != 0 || m.OldTop != 0 || len(m.IDs) != 0 || slices.Contains(m.Cards, true) || len(m.Roots) != 0 {
			t.Error(card, m)
		}
		if want := []api.Word{none, none, none, none, none, small(4), nowhere}; !slices.Equal(m.Weak, want) {
			t.Error(card, m.Weak)
		}
	}
}

// Objects of the old space keep their order, whatever leads to them; those of the nursery come behind, in theirs.
func TestOrder(t *testing.T) {
	for used := range 2 {
		m := fresh(t, 12, 20, 4)
		m.Used = used
		alloc(t, m, 20, none)
		first := alloc(t, m, 21, small(1))
		alloc(t, m, 22)
		second := alloc(t, m, 23, first)
		raw := alloc(t, m, 4, first)
		lay(m, 30, none, none)
		third := lay(m, 31, second)
		lay(m, 0, third)
		fourth := lay(m, 32, third, nowhere)
		fifth := lay(m, 33)
		m.W[used*12+2] = aged(21, 1, 15)
		m.W[used*12+7] = aged(4, 1, 3)
		m.Roots = []api.Word{raw, fifth, second, fourth}
		collect(t, m)
		want := []api.Word{
			head(31, 1), ptr(24 + 8),
			head(32, 2), ptr(24), nowhere,
			head(33, 0),
			head(21, 1), small(1),
			head(23, 1), ptr(24 + 6),
			head(4, 1), first,
		}
		if !slices.Equal(oldWords(m), want) || m.Top != 0 {
			t.Errorf("%d: %#x", used, oldWords(m))
		}
		if roots := []api.Word{ptr(24 + 10), ptr(24 + 5), ptr(24 + 8), ptr(24 + 2)}; !slices.Equal(m.Roots, roots) {
			t.Errorf("%d: %#x", used, m.Roots)
		}
	}
}

// All that points to objects follows: each kind of root and field, Weak and IDs.
func TestFollows(t *testing.T) {
	m := fresh(t, 30, 40, 4)
	lay(m, 8, none)
	leaf := lay(m, 9, small(-3), trueWord, nowhere, falseWord)
	raw := lay(m, 7, leaf, math.MaxUint64, 0, head(8, 1))
	dead := alloc(t, m, 8, leaf)
	pair := alloc(t, m, 8, leaf, raw)
	other := alloc(t, m, 255, pair, leaf)
	self := alloc(t, m, 8, nowhere, dead)
	put(t, m, self, 0, self)
	put(t, m, self, 1, none)
	put(t, m, leaf, 2, other)
	m.Roots = []api.Word{other, nowhere, none, falseWord, trueWord, small(9), raw, other, self}
	m.Weak = []api.Word{dead, leaf, none, small(8), nowhere, pair, ptr(60), raw}
	m.IDs = []mem.ID{{At: dead, Serial: 2}, {At: leaf, Serial: 5}, {At: ptr(60), Serial: 3}, {At: self, Serial: 1}, {At: raw, Serial: 4}}
	collect(t, m)
	want := `root @0
root nowhere
root none
root false
root true
root 9
root @1
root @0
root @2
0 255 @3 @4
1 7 0x00000000000000fc 0xffffffffffffffff 0x0000000000000000 0x0000000000010023
2 8 @2 none
3 8 @4 @1
4 9 -3 true @0 false
weak none
weak @4
weak none
weak 8
weak nowhere
weak @3
weak none
weak @1
id 1 @2
id 4 @1
id 5 @4
`
	if s, err := m.Graph(); s != want || err != nil {
		t.Errorf("%v\n%s", err, s)
	}
	if m.OldTop != 19 || len(m.IDs) != 3 || slices.Contains(m.Cards, true) {
		t.Error(m.OldTop, m.IDs, m.Cards)
	}
}

// What looks like a pointer in a raw object keeps nothing, and stays as it is.
func TestRaw(t *testing.T) {
	for kind := range 256 {
		m := fresh(t, 6, 12, 4)
		young := alloc(t, m, 9, small(1))
		lay(m, 9, none)
		grown := lay(m, 9, small(2))
		m.Roots = []api.Word{lay(m, kind, young, grown)}
		collect(t, m)
		top, words := 7, []api.Word{head(9, 1), small(2), head(kind, 2), ptr(17), ptr(12), head(9, 1), small(1)}
		if kind < 8 {
			top, words = 3, []api.Word{head(kind, 2), young, grown}
		}
		if m.OldTop != top || !slices.Equal(oldWords(m), words) {
			t.Errorf("%d: %#x", kind, oldWords(m))
		}
	}
}

// No card is marked behind it, whether it had to be or not.
func TestCards(t *testing.T) {
	for card := 1; card <= 25; card++ {
		for marked := range 3 {
			m := fresh(t, 12, 20, card)
			young := alloc(t, m, 8, none, none)
			lay(m, 3, young, young)
			m.Roots = []api.Word{lay(m, 8, none, none, young), lay(m, 8, young)}
			for i := range m.Cards {
				m.Cards[i] = m.Cards[i] || marked > 0 && i%marked == 0
			}
			put(t, m, young, 1, m.Roots[0])
			collect(t, m)
			if len(m.Cards) != (20+card-1)/card || slices.Contains(m.Cards, true) || m.OldTop != 9 {
				t.Error(card, marked, m.Cards, m.OldTop)
			}
		}
	}
}

// Gaps of each size, below objects of each size: what slides by less than it has words lies upon itself on the way.
func TestSlides(t *testing.T) {
	for gap := range 9 {
		for size := range 9 {
			m := fresh(t, 4, 40, 3)
			if gap > 0 {
				lay(m, 2, make([]api.Word, gap-1)...)
			}
			var fields []api.Word
			for i := range size {
				fields = append(fields, []api.Word{ptr(8 + gap), small(int64(i)), ptr(8 + gap + 1 + size)}[i%3])
			}
			a := ptr(8 + gap)
			m.Roots = []api.Word{ptr(8 + gap + 1 + size), a}
			m.W[8+gap], m.OldTop = head(8, size), gap+1+size
			copy(m.W[9+gap:], fields)
			lay(m, 9, a, small(77))
			collect(t, m)
			if m.OldTop != size+4 || m.Roots[1] != ptr(8) || m.Roots[0] != ptr(9+size) {
				t.Error(gap, size, m.OldTop, m.Roots)
			}
		}
	}
}

// Objects that hang on each other go together, and those that hang on themselves alone.
func TestRings(t *testing.T) {
	m := fresh(t, 20, 20, 3)
	a := lay(m, 8, none, small(0))
	b := alloc(t, m, 8, a, small(1))
	c := lay(m, 8, b, small(2))
	d := alloc(t, m, 8, c, small(3))
	put(t, m, a, 0, d)
	m.Roots, m.Weak = []api.Word{c}, []api.Word{a, b, c, d}
	collect(t, m)
	if m.OldTop != 12 || !slices.Equal(m.Weak, []api.Word{ptr(40), ptr(46), ptr(43), ptr(49)}) {
		t.Error(m.OldTop, m.Weak)
	}
	m.Roots[0] = none
	collect(t, m)
	if m.OldTop != 0 || !slices.Equal(m.Weak, []api.Word{none, none, none, none}) {
		t.Error(m.OldTop, m.Weak)
	}
}

// Behind it the nursery can be used anew, to its last word; what was made there is collected, too.
func TestGoesOn(t *testing.T) {
	m := fresh(t, 5, 15, 2)
	m.Roots = []api.Word{none}
	for i := range 3 {
		m.Roots[0] = alloc(t, m, 8, m.Roots[0], small(int64(i)), none, none)
		if _, err := m.Alloc(8, nil); err != api.ErrFull {
			t.Fatal(i, err)
		}
		collect(t, m)
		if m.OldTop != 5*(i+1) {
			t.Error(i, m.OldTop)
		}
		put(t, m, m.Roots[0], 3, alloc(t, m, 0))
		put(t, m, m.Roots[0], 3, none)
		if err := minor.Collect(m, 3); err != nil && i < 2 || m.Check() != nil {
			t.Error(i, err, m.Check())
		}
	}
	m.Roots = append(m.Roots, alloc(t, m, 8))
	refused(t, m, api.ErrFull)
	m.Roots = m.Roots[:1]
	collect(t, m)
}

// There is room for as many words as the old space has, of those that stay, wherever they lay; others count for nothing.
func TestFull(t *testing.T) {
	for grown := range 9 {
		for young := range 9 {
			for gone := range 3 {
				m := fresh(t, 12, 8, 4)
				if grown > 0 {
					m.Roots = append(m.Roots, lay(m, 1, slices.Repeat([]api.Word{3}, grown-1)...))
				}
				if young > 0 {
					m.Roots = append(m.Roots, alloc(t, m, 8, slices.Repeat([]api.Word{none}, young-1)...))
				}
				m.Weak = slices.Clone(m.Roots)
				for range gone {
					m.Weak = append(m.Weak, alloc(t, m, 9))
				}
				if grown+young > 8 {
					refused(t, m, api.ErrFull)
				} else {
					collect(t, m)
				}
			}
		}
	}
}

// P101: Check's error comes first.
func TestCheckedFirst(t *testing.T) {
	for want, how := range map[error]func(m *mem.Memory){
		api.ErrPlace: func(m *mem.Memory) { m.Cards[0] = false },
		api.ErrShape: func(m *mem.Memory) { m.Weak[0] = 3 },
	} {
		for _, old := range []int{2, 40} { // without room, and with
			m := fresh(t, 12, old, 4)
			young := alloc(t, m, 8, none, none, none)
			m.Roots, m.Weak = []api.Word{lay(m, 8, young)}, []api.Word{young}
			how(m)
			refused(t, m, want)
		}
	}
}

func TestNoMemory(t *testing.T) {
	if err := major.Collect(nil); err != api.ErrShape {
		t.Error(err)
	}
	for _, m := range []*mem.Memory{
		{}, {Half: 1, Old: 1, Card: 1}, {Half: math.MaxInt, Old: math.MaxInt, Card: 1},
		{Half: -1, Old: 2, Card: 1, Cards: []bool{true, true}},
		{Half: 1, Old: 1, Card: 1, W: make([]api.Word, 3), Cards: []bool{true}, Top: 1},
	} {
		refused(t, m, api.ErrShape)
	}
}

// greatest: a memory as great as may be, filled to the last word; one in so many of its objects is linked with others.
func greatest(t *testing.T, words int, link func(m *mem.Memory, places []int), each int) *mem.Memory {
	t.Helper()
	m := fresh(t, api.MaxWords, api.MaxWords, 3)
	m.Top, m.OldTop = m.Half, m.Old
	for i := range m.Cards {
		m.Cards[i] = true
	}
	var places []int
	for _, from := range []int{0, 2 * m.Half} {
		for i := range m.Half / words {
			at := from + i*words
			m.W[at] = head(8, words-1)
			if i%each == 0 {
				places = append(places, at)
			}
		}
	}
	link(m, places)
	return m
}

// The greatest memories: a chain through both parts, up and down between them; all of one word; wide ones.
func TestGreatest(t *testing.T) {
	chain := func(m *mem.Memory, places []int) {
		last, half := nowhere, len(places)/2
		for i := range places {
			at := places[i/2+i%2*half] // by turns
			m.W[at+1], last = last, ptr(at)
		}
		m.Roots = []api.Word{last}
	}
	single := func(m *mem.Memory, places []int) {
		for _, at := range places {
			m.Roots = append(m.Roots, ptr(at))
		}
	}
	wide := func(m *mem.Memory, places []int) {
		for _, at := range places {
			for j := 1; j < api.MaxFields; j++ {
				m.W[at+j] = ptr(places[(at+j)%len(places)])
			}
		}
		m.Roots = []api.Word{ptr(places[0])}
	}
	for i, c := range []struct {
		words int
		link  func(m *mem.Memory, places []int)
	}{{2, chain}, {1, single}, {api.MaxFields, wide}} {
		for _, each := range []int{1, 2, 4} {
			m := greatest(t, c.words, c.link, each)
			live := 2 * api.MaxWords / each
			if n, err := m.Live(); n != live || err != nil {
				t.Fatal(i, each, n, err)
			}
			if live > m.Old {
				refused(t, m, api.ErrFull)
				continue
			}
			want, _ := m.Graph()
			if err := major.Collect(m); err != nil || m.Top != 0 || m.OldTop != live {
				t.Error(i, each, err, m.Top, m.OldTop)
			}
			if s, err := m.Graph(); s != want || err != nil {
				t.Error(i, each, "another graph", err)
			}
		}
	}
}

// Lists of a memory that are one list, or words of that memory, follow all the same.
func TestSharedLists(t *testing.T) {
	m := fresh(t, 6, 12, 4)
	lay(m, 8, none)
	l := []api.Word{lay(m, 8, none), alloc(t, m, 8, none), none}
	l[2] = alloc(t, m, 8, l[0])
	m.Roots, m.Weak = l, l
	collect(t, m)
	if s, err := m.Graph(); s != "root @0\nroot @1\nroot @2\n0 8 none\n1 8 none\n2 8 @0\nweak @0\nweak @1\nweak @2\n" || err != nil {
		t.Error(s, err)
	}
	right := 0
	for at := range 18 {
		m := fresh(t, 6, 6, 4)
		lay(m, 9, none)
		a, b := alloc(t, m, 8, none, none), alloc(t, m, 7, 9, 9)
		m.W[1], m.W[2] = b, a
		if at > 5 && (at < 12 || at > 13) {
			m.W[at] = a
		}
		m.Roots, m.Weak = m.W[at:at+1], m.W[at:at+1]
		if m.Check() == nil && live(m) <= m.Old {
			right++
			collect(t, m)
		}
	}
	if right < 10 {
		t.Error(right)
	}
}
