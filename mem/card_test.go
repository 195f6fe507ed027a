package mem_test

import (
	"math"
	"math/rand"
	"slices"
	"sort"
	"testing"

	"nurserypy/checks/made"
	"nurserypy/checks/reading"
	"nurserypy/mem"
)

func TestRaw(t *testing.T) {
	for kind := -3; kind < 300; kind++ {
		if got := mem.Raw(kind); got != (kind >= 0 && kind <= 7) {
			t.Error(kind, got)
		}
	}
}

// Mark marks the cards that must be, and no other.
func TestMark(t *testing.T) {
	for seed := range 2000 {
		m := made.Memory(seed)
		want := plainly(m)
		clear(m.Cards)
		for _, at := range m.Marked() {
			t.Fatal(seed, "marked", at)
		}
		for at, x := range reading.Things(m) {
			for i := range x.Fields {
				if x.Kind > 7 {
					m.Mark(at + 1 + i)
				}
			}
		}
		want.Cards = reading.Needed(m)
		if !reading.Same(m, &want) {
			t.Fatal(seed, m.Cards, want.Cards)
		}
	}
}

func TestMarkElsewhere(t *testing.T) {
	m := laid(t)
	for at := range m.W {
		m.W[at] = ptr(12)
	}
	for _, at := range []int{0, 12, 23, -1, 44, math.MinInt, math.MaxInt} {
		m.Cards[0] = false
		m.Mark(at)
		if slices.Contains(m.Cards, true) {
			t.Error(at, m.Cards)
		}
	}
	for at := 24; at < 44; at++ {
		clear(m.Cards)
		m.Mark(at)
		if i := slices.Index(m.Cards, true); i != (at-24)/4 {
			t.Error(at, m.Cards)
		}
	}
}

func TestMarked(t *testing.T) {
	for seed := range 2000 {
		m := made.Memory(seed)
		whole := plainly(m)
		var want []int
		for at, x := range reading.Things(m) {
			for i := range x.Fields {
				if at >= 2*m.Half && x.Kind > 7 && m.Cards[(at+1+i-2*m.Half)/m.Card] {
					want = append(want, at+1+i)
				}
			}
		}
		sort.Ints(want)
		if got := m.Marked(); !slices.Equal(got, want) || !reading.Same(m, &whole) {
			t.Fatal(seed, got, want)
		}
	}
}

// P1: neither asks Check, and neither panics, whatever the memory is.
func TestMarkOfAny(t *testing.T) {
	for _, m := range []*mem.Memory{nil, {}, {Half: 1, Old: 1}, {Half: 1, Old: 1, Card: 1}, {OldTop: 5, Cards: []bool{true}}} {
		if l := m.Marked(); len(l) > 0 {
			t.Error(l)
		}
		m.Mark(0)
	}
	r := rand.New(rand.NewSource(11))
	for seed := range 20000 {
		m := made.Memory(seed % 2000)
		made.Spoil(m, 2*seed)
		made.Spoil(m, 2*seed+1)
		for _, at := range m.Marked() {
			if at < 2*m.Half || at >= len(m.W) {
				t.Fatal(seed, at)
			}
		}
		m.Mark(r.Intn(len(m.W) + 3))
	}
}
