package minor_test

import (
	"math"
	"slices"
	"testing"

	"nurserypy/api"
	"nurserypy/checks/reading"
	"nurserypy/mem"
	"nurserypy/minor"
)

// Words as P70 writes them.
const (
	nowhere   api.Word = 0
	none      api.Word = 2
	falseWord api.Word = 6
	trueWord  api.Word = 10
)

func ptr(at int) api.Word { return api.Word(at+1) * 4 }

func small(n int64) api.Word { return api.Word(n*4 + 1) }

func head(kind, size int) api.Word { return api.Word(kind*4 + size*65536 + 3) }

func aged(kind, size, age int) api.Word { return head(kind, size) + api.Word(age*1024) }

func ageOf(w api.Word) int { return int(w / 1024 % 16) }

func fresh(t *testing.T, half, old, card int) *mem.Memory {
	t.Helper()
	m, err := mem.New(half, old, card)
	if err != nil {
		t.Fatal(err)
	}
	return m
}

func alloc(t *testing.T, m *mem.Memory, kind int, fields ...api.Word) api.Word {
	t.Helper()
	p, err := m.Alloc(kind, fields)
	if err != nil {
		t.Fatal(err)
	}
	return p
}

// lay writes an object to the old space's top: a pointer to it. Its cards are marked where they must be.
func lay(m *mem.Memory, kind int, fields ...api.Word) api.Word {
	at := 2*m.Half + m.OldTop
	m.W[at] = head(kind, len(fields))
	copy(m.W[at+1:], fields)
	m.OldTop += 1 + len(fields)
	for i, must := range reading.Needed(m) {
		m.Cards[i] = m.Cards[i] || must
	}
	return ptr(at)
}

// collect does so, and holds what came of it against P90 and P92.
func collect(t *testing.T, m *mem.Memory, tenure int) {
	t.Helper()
	before := m.Copy()
	if err := minor.Collect(m, tenure); err != nil {
		t.Fatal(err)
	}
	held(t, before, m, tenure)
}

func graph(t *testing.T, m *mem.Memory) string {
	t.Helper()
	s, err := m.Graph()
	if err != nil {
		t.Fatal(err)
	}
	return s
}

func TestEmpty(t *testing.T) {
	for _, tenure := range []int{0, 1, 15} {
		m := fresh(t, 3, 1, 1)
		for i := range 4 {
			collect(t, m, tenure)
			if want := fresh(t, 3, 1, 1); m.Used != 1-i%2 || m.Top != 0 || m.OldTop != 0 || !slices.Equal(m.W, want.W) {
				t.Error(tenure, i, m)
			}
		}
	}
}

// What can be come to from Roots is copied, each object once, and nothing else.
func TestRoots(t *testing.T) {
	for tenure := range 16 {
		m := fresh(t, 40, 40, 4)
		alloc(t, m, 8, none)
		leaf := alloc(t, m, 9, small(-3), trueWord, nowhere)
		raw := alloc(t, m, 7, leaf, math.MaxUint64, 0, head(8, 1))
		dead := alloc(t, m, 8, leaf)
		pair := alloc(t, m, 8, leaf, raw)
		other := alloc(t, m, 255, pair, leaf)
		self := alloc(t, m, 8, nowhere)
		if err := m.Put(self, 0, self); err != nil {
			t.Fatal(err)
		}
		m.Roots = []api.Word{other, nowhere, none, falseWord, trueWord, small(9), raw, other, self}
		m.Weak = []api.Word{dead, leaf, none, small(8), nowhere, pair, dead}
		m.IDs = []mem.ID{{At: dead, Serial: 2}, {At: leaf, Serial: 5}, {At: ptr(0), Serial: 3}, {At: self, Serial: 1}}
		collect(t, m, tenure)
		want := `root @0
root nowhere
root none
root false
root true
root 9
root @1
root @0
root @2
0 255 @3 @4
1 7 0x000000000000000c 0xffffffffffffffff 0x0000000000000000 0x0000000000010023
2 8 @2
3 8 @4 @1
4 9 -3 true nowhere
weak none
weak @4
weak none
weak 8
weak nowhere
weak @3
weak none
id 1 @2
id 5 @4
`
		if s := graph(t, m); s != want {
			t.Errorf("%d:\n%s", tenure, s)
		}
		if m.Top+m.OldTop != 17 || len(m.IDs) != 2 {
			t.Error(tenure, m.Top, m.OldTop, m.IDs)
		}
	}
}

// From fields of any object of the old space, also of one that nothing leads to; not from a raw one, whatever its words
// look like, nor from Weak or IDs.
func TestCards(t *testing.T) {
	for card := 1; card <= 20; card++ {
		for _, tenure := range []int{0, 1, 15} {
			m := fresh(t, 20, 40, card)
			a, b, c, d := alloc(t, m, 8, small(1)), alloc(t, m, 8, small(2)), alloc(t, m, 8, small(3)), alloc(t, m, 8, small(4))
			lay(m, 8, none, small(5), nowhere, a)
			lay(m, 0, b, b, b)
			holds := lay(m, 9, none, none, none, none, c, none, none, none)
			lay(m, 8, holds)
			for i := range m.Cards {
				m.Cards[i] = true
			}
			m.Weak = []api.Word{a, b, c, d}
			m.IDs = []mem.ID{{At: a, Serial: 1}, {At: b, Serial: 2}, {At: c, Serial: 3}, {At: d, Serial: 4}}
			collect(t, m, tenure)
			if m.Top+m.OldTop != 20+4 || m.Weak[1] != none || m.Weak[3] != none || len(m.IDs) != 2 {
				t.Error(card, tenure, m.Top, m.OldTop, m.Weak, m.IDs)
			}
			m.Roots = m.Weak
			if s := graph(t, m); s != "root @0\nroot none\nroot @1\nroot none\n0 8 1\n1 8 3\nweak @0\nweak none\nweak @1\nweak none\nid 1 @0\nid 3 @1\n" {
				t.Errorf("%d, %d:\n%s", card, tenure, s)
			}
		}
	}
}

// An object is copied to the other half so often as tenure tells, each time a year older, and then grows old.
func TestAges(t *testing.T) {
	for tenure := range 16 {
		m := fresh(t, 9, 20, 4)
		m.Roots = []api.Word{alloc(t, m, 8, small(7), none), alloc(t, m, 3, 5)}
		for age := range tenure {
			for _, w := range m.Roots {
				if at, ok := reading.At(w); !ok || at >= 18 || ageOf(m.W[at]) != age {
					t.Error(tenure, age, at, m.W[at])
				}
			}
			collect(t, m, tenure)
			if m.Top != 5 || m.OldTop != 0 {
				t.Error(tenure, age, m.Top, m.OldTop)
			}
		}
		collect(t, m, tenure)
		for _, w := range m.Roots {
			if at, ok := reading.At(w); !ok || at < 18 || ageOf(m.W[at]) != 0 {
				t.Error(tenure, at, m.W[at])
			}
		}
		if m.Top != 0 || m.OldTop != 5 || m.Used != (tenure+1)%2 {
			t.Error(tenure, m.Top, m.OldTop, m.Used)
		}
	}
}

// Each age against each tenure.
func TestTenures(t *testing.T) {
	for tenure := range 16 {
		m := fresh(t, 32, 32, 5)
		for age := range 16 {
			m.Roots = append(m.Roots, alloc(t, m, 8+age, small(int64(age))))
			m.W[2*age] = aged(8+age, 1, age)
		}
		collect(t, m, tenure)
		if m.Top != 2*tenure || m.OldTop != 32-2*tenure {
			t.Error(tenure, m.Top, m.OldTop)
		}
		for age, w := range m.Roots {
			at, _ := reading.At(w)
			if age < tenure && (at < 32 || at >= 64 || ageOf(m.W[at]) != age+1) || age >= tenure && (at < 64 || ageOf(m.W[at]) != 0) {
				t.Error(tenure, age, at, m.W[at])
			}
		}
	}
}

// What grew old and points to what did not has its card marked, field by field; what points to it needs none.
func TestGrownCards(t *testing.T) {
	for card := 1; card <= 12; card++ {
		for field := range 9 {
			m := fresh(t, 12, 23, card)
			young := alloc(t, m, 9)
			l := slices.Repeat([]api.Word{none}, 9)
			l[field] = young
			grown := alloc(t, m, 8, l...)
			m.W[1] = aged(8, 9, 2)
			m.Roots = []api.Word{grown}
			lay(m, 8, grown, young, grown)
			collect(t, m, 2)
			want := make([]bool, len(m.Cards))
			want[2/card], want[(4+1+field)/card] = true, true
			if m.OldTop != 14 || m.Top != 1 || !slices.Equal(m.Cards, want) {
				t.Error(card, field, m.OldTop, m.Top, m.Cards, want)
			}
		}
	}
}

// A card that is marked, and need not be any more, is not: else it would be looked at again each time.
func TestCardsThatNeedNotBe(t *testing.T) {
	m := fresh(t, 4, 20, 2)
	lay(m, 8, small(1), none, alloc(t, m, 8, none))
	for i := range m.Cards {
		m.Cards[i] = true
	}
	collect(t, m, 1)
	if want := []bool{false, true, false, false, false, false, false, false, false, false}; !slices.Equal(m.Cards, want) {
		t.Error(m.Cards)
	}
	collect(t, m, 1)
	if slices.Contains(m.Cards, true) || m.OldTop != 6 {
		t.Error(m.Cards, m.OldTop)
	}
}

// What hangs on each other, some of it old enough, some not.
func TestRing(t *testing.T) {
	m := fresh(t, 20, 20, 3)
	a := alloc(t, m, 8, none, small(0))
	b := alloc(t, m, 8, a, small(1))
	c := alloc(t, m, 8, b, small(2))
	d := alloc(t, m, 8, c, small(3))
	if err := m.Put(a, 0, d); err != nil {
		t.Fatal(err)
	}
	m.W[3], m.W[9] = aged(8, 2, 4), aged(8, 2, 3)
	m.Roots = []api.Word{a}
	want := graph(t, m)
	for i, tops := range [][2]int{{6, 6}, {6, 6}, {6, 6}, {0, 12}, {0, 12}} {
		collect(t, m, 3)
		if graph(t, m) != want || m.Top != tops[0] || m.OldTop != tops[1] {
			t.Errorf("%d: %d, %d\n%s", i, m.Top, m.OldTop, graph(t, m))
		}
	}
}

func TestTenureBounds(t *testing.T) {
	for _, tenure := range []int{-1, 16, math.MinInt, math.MaxInt, 1 << 32, -16} {
		for _, old := range []int{8, 4} { // with room, and without
			m := fresh(t, 12, old, 4)
			m.Roots = []api.Word{alloc(t, m, 9, none, none, none, none)}
			refused(t, m, tenure, api.ErrBound)
		}
	}
}

// refused: the error, and nothing is done.
func refused(t *testing.T, m *mem.Memory, tenure int, want error) {
	t.Helper()
	before := m.Copy()
	if err := minor.Collect(m, tenure); err != want {
		t.Errorf("%d: %v, want %v", tenure, err, want)
	}
	if !reading.Same(m, before) {
		t.Errorf("%d: %v, and changed", tenure, want)
	}
}

// The room that is asked for is that of the whole nursery, whatever of it lives, and wherever it would go.
func TestFull(t *testing.T) {
	for room := range 9 {
		for top := range 9 {
			for _, tenure := range []int{0, 15} {
				for _, lives := range []int{0, 1} {
					m := fresh(t, 8, 11, 4)
					lay(m, 1, slices.Repeat([]api.Word{3}, 10-room)...)
					if top > 0 {
						m.Roots = []api.Word{alloc(t, m, 8, slices.Repeat([]api.Word{none}, top-1)...)}[:lives]
					}
					if room < top {
						refused(t, m, tenure, api.ErrFull)
					} else {
						collect(t, m, tenure)
					}
				}
			}
		}
	}
}

// P91: Check's error comes first.
func TestCheckedFirst(t *testing.T) {
	for want, how := range map[error]func(m *mem.Memory){
		api.ErrPlace: func(m *mem.Memory) { m.Cards[0] = false },
		api.ErrShape: func(m *mem.Memory) { m.Weak[0] = 3 },
	} {
		for _, old := range []int{4, 40} {
			for _, tenure := range []int{0, 3, 15, 16, -1} {
				m := fresh(t, 12, old, 4)
				young := alloc(t, m, 8, none, none, none)
				m.Roots, m.Weak = []api.Word{lay(m, 8, young)}, []api.Word{young}
				how(m)
				refused(t, m, tenure, want)
			}
		}
	}
}

func TestNil(t *testing.T) {
	for _, tenure := range []int{0, 1, 16, -1} {
		if err := minor.Collect(nil, tenure); err != api.ErrShape {
			t.Error(tenure, err)
		}
		refused(t, &mem.Memory{}, tenure, api.ErrShape)
	}
}

// The greatest memory: a chain as long as it goes, all of one word, one that is wide.
func TestGreatest(t *testing.T) {
	chain := func(m *mem.Memory) {
		last := nowhere
		for i := 0; i < api.MaxWords; i += 2 {
			m.W[i], m.W[i+1] = aged(8, 1, i%7), last
			last = ptr(i)
		}
		m.Roots = []api.Word{last}
	}
	bare := func(m *mem.Memory) {
		for i := range api.MaxWords {
			m.W[i] = head(8, 0)
			m.Roots = append(m.Roots, ptr(i))
		}
	}
	wide := func(m *mem.Memory) {
		const size = api.MaxWords / 16
		for i := 0; i < api.MaxWords; i += size {
			m.W[i] = head(8, size-1)
			for j := 1; j < size; j++ {
				m.W[i+j] = ptr((i + j*size) % api.MaxWords)
			}
		}
		m.Roots = []api.Word{ptr(size)}
	}
	for i, lay := range []func(m *mem.Memory){chain, bare, wide} {
		for _, tenure := range []int{0, 3, 15} {
			m := fresh(t, api.MaxWords, api.MaxWords, 1)
			m.Top = api.MaxWords
			lay(m)
			if err := minor.Collect(m, tenure); err != nil || m.Top+m.OldTop != api.MaxWords || m.Check() != nil {
				t.Error(i, tenure, err, m.Top, m.OldTop, m.Check())
			}
			if n, err := m.Live(); n != api.MaxWords || err != nil {
				t.Error(i, tenure, n, err)
			}
			if (m.Top == 0) != (tenure == 0) {
				t.Error(i, tenure, m.Top)
			}
		}
	}
}

// Lists of a memory that are one list, or words of that memory, are followed all the same.
func TestSharedLists(t *testing.T) {
	m := fresh(t, 6, 12, 4)
	l := []api.Word{alloc(t, m, 8, none), alloc(t, m, 8, none), none}
	l[2] = alloc(t, m, 8, l[0])
	m.Roots, m.Weak = l, l
	collect(t, m, 3)
	if s := graph(t, m); s != "root @0\nroot @1\nroot @2\n0 8 none\n1 8 none\n2 8 @0\nweak @0\nweak @1\nweak @2\n" {
		t.Error(s)
	}
	for _, tenure := range []int{0, 5} {
		for at := range 18 {
			m := fresh(t, 6, 6, 4)
			a, b := alloc(t, m, 8, none, none), alloc(t, m, 7, 9, 9)
			m.W[1], m.W[2] = b, a
			if at > 5 {
				m.W[at] = a
			}
			m.Roots, m.Weak = m.W[at:at+1], m.W[at:at+1]
			if m.Check() != nil {
				continue
			}
			collect(t, m, tenure)
		}
	}
}
