package mem_test

import (
	"math"
	"testing"

	"nurserypy/api"
	"nurserypy/checks/made"
	"nurserypy/checks/reading"
	"nurserypy/mem"
)

// Words as P70 writes them.
const (
	nowhere   api.Word = 0
	none      api.Word = 2
	falseWord api.Word = 6
	trueWord  api.Word = 10
)

func ptr(at int) api.Word { return api.Word(at+1) * 4 }

func small(n int64) api.Word { return api.Word(n*4 + 1) }

func head(kind, size int) api.Word { return api.Word(kind*4 + size*65536 + 3) }

func aged(kind, size, age int) api.Word { return head(kind, size) + api.Word(age*1024) }

func fresh(t *testing.T, half, old, card int) *mem.Memory {
	t.Helper()
	m, err := mem.New(half, old, card)
	if err != nil {
		t.Fatal(err)
	}
	return m
}

func alloc(t *testing.T, m *mem.Memory, kind int, fields ...api.Word) api.Word {
	t.Helper()
	p, err := m.Alloc(kind, fields)
	if err != nil {
		t.Fatal(err)
	}
	return p
}

// lay writes an object to the old space's top: a pointer to it.
func lay(m *mem.Memory, kind int, fields ...api.Word) api.Word {
	at := 2*m.Half + m.OldTop
	m.W[at] = head(kind, len(fields))
	copy(m.W[at+1:], fields)
	m.OldTop += 1 + len(fields)
	return ptr(at)
}

// plainly: a memory as it is now, made without Copy.
func plainly(m *mem.Memory) mem.Memory {
	c := *m
	c.W = append([]api.Word{}, m.W...)
	c.Roots = append([]api.Word{}, m.Roots...)
	c.Weak = append([]api.Word{}, m.Weak...)
	c.IDs = append([]mem.ID{}, m.IDs...)
	c.Cards = append([]bool{}, m.Cards...)
	return c
}

func TestNew(t *testing.T) {
	for _, c := range []struct{ half, old, card, cards int }{
		{1, 1, 1, 1}, {1, 1, 1024, 1}, {12, 20, 4, 5}, {3, 21, 4, 6}, {3, 23, 4, 6}, {3, 24, 4, 6}, {3, 25, 4, 7},
		{65536, 65536, 1, 65536}, {65536, 65536, 1024, 64}, {1, 65536, 1023, 65}, {65536, 1, 3, 1}, {5, 1024, 1024, 1}, {5, 1025, 1024, 2},
	} {
		m, err := mem.New(c.half, c.old, c.card)
		if err != nil {
			t.Errorf("%v: %v", c, err)
			continue
		}
		want := &mem.Memory{Half: c.half, Old: c.old, Card: c.card, W: make([]api.Word, 2*c.half+c.old), Cards: make([]bool, c.cards)}
		if !reading.Same(m, want) || m.Check() != nil {
			t.Errorf("%v: %d words, %d cards, %v", c, len(m.W), len(m.Cards), m.Check())
		}
		if n, err := m.Live(); n != 0 || err != nil {
			t.Errorf("%v: %d live, %v", c, n, err)
		}
		if s, err := m.Graph(); s != "" || err != nil {
			t.Errorf("%v: %q, %v", c, s, err)
		}
	}
}

func TestNewBounds(t *testing.T) {
	bad := []int{0, -1, math.MinInt, math.MaxInt, 65537, 1 << 32, 1 << 61, 1 << 62}
	for _, n := range bad {
		for _, c := range [][3]int{{n, 1, 1}, {1, n, 1}, {1, 1, n}, {n, n, n}, {n, n, 1}} {
			if m, err := mem.New(c[0], c[1], c[2]); m != nil || err != api.ErrBound {
				t.Errorf("%v: %v, %v", c, m, err)
			}
		}
	}
	if m, err := mem.New(1, 1, 1025); m != nil || err != api.ErrBound {
		t.Error(m, err)
	}
}

func TestNewIsNew(t *testing.T) {
	a, b := fresh(t, 4, 4, 1), fresh(t, 4, 4, 1)
	alloc(t, a, 8, none)
	a.Cards[0] = true
	if !reading.Same(b, fresh(t, 4, 4, 1)) {
		t.Error("two memories share words or cards")
	}
}

func TestCopy(t *testing.T) {
	for seed := range 200 {
		m := made.Memory(seed)
		c := m.Copy()
		if !reading.Same(m, c) || c == m {
			t.Fatal(seed, "a copy is not the same")
		}
		whole := plainly(m)
		for i := range c.W {
			c.W[i] ^= 1
		}
		for i := range c.Roots {
			c.Roots[i] ^= 1
		}
		for i := range c.Weak {
			c.Weak[i] ^= 1
		}
		for i := range c.IDs {
			c.IDs[i].Serial++
		}
		for i := range c.Cards {
			c.Cards[i] = !c.Cards[i]
		}
		c.Roots, c.Weak, c.IDs = append(c.Roots, 1), append(c.Weak, 1), append(c.IDs, mem.ID{})
		c.Half, c.Old, c.Card, c.Used, c.Top, c.OldTop = 0, 0, 0, 0, 0, 0
		if !reading.Same(m, &whole) {
			t.Fatal(seed, "a copy shares with what it was made of")
		}
	}
}

// A copy is one of whatever there is: it need not check.
func TestCopyOfAny(t *testing.T) {
	var nothing *mem.Memory
	if c := nothing.Copy(); c != nil {
		t.Error(c)
	}
	for _, m := range []*mem.Memory{{}, {Half: -3, Top: 7, Roots: []api.Word{3}}, {Used: 9, W: []api.Word{1, 2}, Cards: []bool{true}, IDs: []mem.ID{{Serial: -1}}}} {
		if c := m.Copy(); !reading.Same(m, c) {
			t.Errorf("%v: %v", m, c)
		}
	}
}

// P1: of a memory that is nil, or has nothing, each call answers an error.
func TestNil(t *testing.T) {
	for _, m := range []*mem.Memory{nil, {}} {
		if err := m.Check(); err != api.ErrShape {
			t.Error(err)
		}
		for _, field := range []int{0, -1, math.MaxInt} {
			for _, kind := range []int{8, -1, 256} {
				if p, err := m.Alloc(kind, nil); p != 0 || err != api.ErrShape {
					t.Error(p, err)
				}
			}
			if w, err := m.Get(4, field); w != 0 || err != api.ErrShape {
				t.Error(w, err)
			}
			if err := m.Put(4, field, 1); err != api.ErrShape {
				t.Error(err)
			}
		}
		if s, err := m.Graph(); s != "" || err != api.ErrShape {
			t.Error(s, err)
		}
		if n, err := m.Live(); n != 0 || err != api.ErrShape {
			t.Error(n, err)
		}
	}
}
