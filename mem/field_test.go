package mem_test

import (
	"math"
	"testing"

	"nurserypy/api"
	"nurserypy/checks/reading"
	"nurserypy/mem"
)

func TestAlloc(t *testing.T) {
	m := laid(t)
	for i, c := range []struct {
		kind   int
		fields []api.Word
		at     int
	}{
		{255, []api.Word{ptr(12), ptr(24), nowhere}, 18},
		{0, []api.Word{math.MaxUint64}, 22},
	} {
		if p := alloc(t, m, c.kind, c.fields...); p != ptr(c.at) {
			t.Errorf("%d: %#x", i, p)
		}
		if m.W[c.at] != head(c.kind, len(c.fields)) || m.Top != c.at-12+1+len(c.fields) || m.Check() != nil {
			t.Errorf("%d: %#x, top %d, %v", i, m.W[c.at], m.Top, m.Check())
		}
		for j, w := range c.fields {
			if m.W[c.at+1+j] != w {
				t.Errorf("%d: field %d is %#x", i, j, m.W[c.at+1+j])
			}
		}
	}
	if p, err := m.Alloc(8, nil); p != 0 || err != api.ErrFull {
		t.Error(p, err)
	}
}

func TestAllocBounds(t *testing.T) {
	m := fresh(t, 5000, 1, 1)
	for _, kind := range []int{-1, 256, math.MinInt, math.MaxInt, 1 << 32} {
		for _, fields := range [][]api.Word{nil, {3}, make([]api.Word, 4097), make([]api.Word, 6000)} {
			if p, err := m.Alloc(kind, fields); p != 0 || err != api.ErrBound {
				t.Error(kind, len(fields), p, err)
			}
		}
	}
	for _, kind := range []int{0, 7, 8, 255} {
		wrong := make([]api.Word, 4097)
		wrong[0] = 3
		if p, err := m.Alloc(kind, wrong); p != 0 || err != api.ErrBound {
			t.Error(kind, p, err)
		}
	}
	if p, err := m.Alloc(9, make([]api.Word, 4096)); p != ptr(0) || err != nil || m.Top != 4097 {
		t.Error(p, err, m.Top)
	}
	if p, err := m.Alloc(9, make([]api.Word, 4096)); p != 0 || err != api.ErrFull || m.Top != 4097 {
		t.Error(p, err, m.Top)
	}
}

// ErrFull just where there is no room, in both halves, ErrShape ahead of it.
func TestAllocFull(t *testing.T) {
	for half := 1; half < 9; half++ {
		for size := range 10 {
			for used := range 2 {
				m := fresh(t, half, 5, 1)
				m.Used = used
				p, err := m.Alloc(8, make([]api.Word, size))
				if size < half && (p != ptr(used*half) || err != nil || m.Top != 1+size) || size >= half && (p != 0 || err != api.ErrFull || m.Top != 0) {
					t.Errorf("half %d, size %d: %#x, %v, top %d", half, size, p, err, m.Top)
				}
				l := make([]api.Word, size+1)
				l[size] = 3
				if p, err := m.Alloc(8, l); p != 0 || err != api.ErrShape {
					t.Errorf("half %d, size %d: %#x, %v", half, size, p, err)
				}
			}
		}
	}
}

func TestAllocShape(t *testing.T) {
	for _, w := range strays() {
		for _, kind := range []int{8, 255} {
			m := laid(t)
			whole := plainly(m)
			for _, fields := range [][]api.Word{{w}, {none, w}, {w, none}, {none, w, ptr(12), nowhere, none, none, none}} {
				if p, err := m.Alloc(kind, fields); p != 0 || err != api.ErrShape {
					t.Errorf("%#x: %#x, %v", w, p, err)
				}
			}
			if !reading.Same(m, &whole) {
				t.Errorf("%#x: changed", w)
			}
		}
		for _, kind := range []int{0, 7} {
			m := laid(t)
			p, err := m.Alloc(kind, []api.Word{w})
			if got, _ := m.Get(p, 0); got != w || err != nil {
				t.Errorf("%#x: %#x, %v", w, got, err)
			}
		}
	}
}

// Fields are not kept: a later change of them does not show (P4); they may be words of the memory itself.
func TestAllocFields(t *testing.T) {
	m := laid(t)
	l := []api.Word{none, ptr(12)}
	p := alloc(t, m, 8, l...)
	l[0], l[1] = 3, 3
	if w, err := m.Get(p, 1); w != ptr(12) || err != nil || m.Check() != nil {
		t.Error(w, err, m.Check())
	}
	for from := 14; from < 22; from++ {
		m := laid(t)
		m.W[18], m.W[19], m.W[20], m.W[21], m.W[22] = 1, 2, 3, 4, 5
		want := []api.Word{m.W[from], m.W[from+1]}
		p := alloc(t, m, 0, m.W[from:from+2]...)
		for i := range want {
			if w, err := m.Get(p, i); w != want[i] || err != nil {
				t.Error(from, i, w, err)
			}
		}
	}
}

func TestGet(t *testing.T) {
	m := laid(t)
	whole := plainly(m)
	for _, c := range []struct {
		at, field int
		want      api.Word
	}{
		{12, 0, small(5)}, {12, 1, none}, {15, 0, 3}, {15, 1, math.MaxUint64}, {24, 0, ptr(12)}, {24, 1, nowhere}, {24, 2, trueWord},
		{28, 0, ptr(12)}, {28, 1, 77}, {32, 0, ptr(24)},
	} {
		if w, err := m.Get(ptr(c.at), c.field); w != c.want || err != nil {
			t.Errorf("%v: %#x, %v", c, w, err)
		}
	}
	for at, size := range map[int]int{12: 2, 15: 2, 24: 3, 28: 2, 31: 0, 32: 1} {
		for _, field := range []int{-1, size, size + 1, math.MinInt, math.MaxInt, 4096} {
			if w, err := m.Get(ptr(at), field); w != 0 || err != api.ErrBound {
				t.Errorf("%d, field %d: %#x, %v", at, field, w, err)
			}
		}
	}
	for _, p := range append(strays(), nowhere, none, trueWord, small(0), small(12), small(-1)) {
		for _, field := range []int{0, -1, math.MaxInt} {
			if w, err := m.Get(p, field); w != 0 || err != api.ErrPlace {
				t.Errorf("%#x: %#x, %v", p, w, err)
			}
		}
	}
	if !reading.Same(m, &whole) {
		t.Error("changed")
	}
}

func TestPut(t *testing.T) {
	for _, at := range []int{12, 24, 32} {
		for _, w := range []api.Word{nowhere, none, falseWord, trueWord, small(0), small(-api.MaxSmall), ptr(12), ptr(15), ptr(24), ptr(31)} {
			m := laid(t)
			want := plainly(m)
			want.W[at+1] = w
			if at == 32 && (w == ptr(12) || w == ptr(15)) {
				want.Cards[2] = true
			}
			if err := m.Put(ptr(at), 0, w); err != nil || !reading.Same(m, &want) || m.Check() != nil {
				t.Errorf("%d, %#x: %v, %v", at, w, err, m.Check())
			}
		}
	}
}

func TestPutWrong(t *testing.T) {
	m := laid(t)
	whole := plainly(m)
	values := append(strays(), none, ptr(12))
	for _, w := range values {
		for _, p := range append(strays(), nowhere, none, small(12)) {
			for _, field := range []int{0, -1, 9} {
				if err := m.Put(p, field, w); err != api.ErrPlace {
					t.Errorf("%#x, field %d, %#x: %v", p, field, w, err)
				}
			}
		}
		for at, size := range map[int]int{12: 2, 15: 2, 24: 3, 28: 2, 31: 0, 32: 1} {
			for _, field := range []int{-1, size, math.MinInt, math.MaxInt} {
				if err := m.Put(ptr(at), field, w); err != api.ErrBound {
					t.Errorf("%d, field %d, %#x: %v", at, field, w, err)
				}
			}
		}
		for _, at := range []int{15, 28} { // raw
			if err := m.Put(ptr(at), 1, w); err != api.ErrShape {
				t.Errorf("%d, %#x: %v", at, w, err)
			}
		}
	}
	for _, w := range strays() {
		for _, at := range []int{12, 24, 32} {
			if err := m.Put(ptr(at), 0, w); err != api.ErrShape {
				t.Errorf("%d, %#x: %v", at, w, err)
			}
		}
	}
	if !reading.Same(m, &whole) {
		t.Error("changed")
	}
}

// Put marks the one card in which the field lies, and only where it must.
func TestPutMarks(t *testing.T) {
	for card := 1; card <= 21; card++ {
		for field := range 19 {
			m := fresh(t, 3, 20, card)
			young := alloc(t, m, 8)
			old := lay(m, 8, make([]api.Word, 19)...)
			want := make([]bool, len(m.Cards))
			for _, w := range []api.Word{none, old, young, nowhere, young} {
				if w == young {
					want[(field+1)/card] = true
				}
				if err := m.Put(old, field, w); err != nil || m.Check() != nil {
					t.Fatal(card, field, err, m.Check())
				}
				for i := range want {
					if m.Cards[i] != want[i] {
						t.Errorf("card of %d, field %d, %#x: %v", card, field, w, m.Cards)
					}
				}
			}
		}
	}
}

// A pointer to a nursery's object that is put into the nursery marks nothing.
func TestPutYoung(t *testing.T) {
	m := fresh(t, 6, 6, 1)
	a := alloc(t, m, 8, none)
	b := alloc(t, m, 8, none)
	if err := m.Put(a, 0, b); err != nil {
		t.Error(err)
	}
	if err := m.Put(b, 0, a); err != nil {
		t.Error(err)
	}
	want := &mem.Memory{Half: 6, Old: 6, Card: 1, W: []api.Word{head(8, 1), b, head(8, 1), a, 17: 0}, Top: 4, Cards: make([]bool, 6)}
	if !reading.Same(m, want) {
		t.Error(m)
	}
}
