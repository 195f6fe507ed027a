// Package reading is a second reading of what a memory is (P70, P80 to P84), from its words alone: tests hold the
// packages that work on memories against it.
package reading

import (
	"slices"

	"nurserypy/api"
	"nurserypy/mem"
)

// Thing: an object of a memory.
type Thing struct {
	Kind, Age int
	Fields    []api.Word
}

// Raw: whether its fields are any words.
func (x Thing) Raw() bool { return x.Kind < 8 }

// At: where a word points to, if it points somewhere.
func At(w api.Word) (int, bool) { return int(w/4) - 1, w > 0 && w%4 == 0 }

// Young: whether a word points into one of the nursery's halves.
func Young(m *mem.Memory, w api.Word) bool {
	at, ok := At(w)
	return ok && at < m.Half+m.Half
}

// Things: the objects of a memory, by where they begin; nil if the used parts are not objects.
func Things(m *mem.Memory) map[int]Thing {
	out := map[int]Thing{}
	for _, part := range [][3]int{{m.Used * m.Half, m.Top, 15}, {2 * m.Half, m.OldTop, 0}} {
		left := part[1]
		for at := part[0]; left > 0; {
			w := m.W[at]
			size, kind, age := int(w/65536), int(w/4%256), int(w/1024%16)
			if w%4 != 3 || w/16384%4 != 0 || w/65536 > 4096 || age > part[2] || size+1 > left {
				return nil
			}
			out[at] = Thing{kind, age, m.W[at+1 : at+1+size]}
			at, left = at+1+size, left-1-size
		}
	}
	return out
}

// May: whether a word may be a root or a field, where these things are.
func May(l map[int]Thing, w api.Word) bool {
	at, ok := At(w)
	_, there := l[at]
	return w == 0 || ok && there || w%4 == 1 || w == 2 || w == 6 || w == 10
}

// Right: what Check must answer of a memory that is not nil.
func Right(m *mem.Memory) error {
	l := map[int]Thing(nil)
	if sized(m) {
		l = Things(m)
	}
	if l == nil || !rightIDs(m, l) {
		return api.ErrShape
	}
	words := slices.Concat(m.Roots, m.Weak)
	for _, x := range l {
		if !x.Raw() {
			words = append(words, x.Fields...)
		}
	}
	for _, w := range words {
		if !May(l, w) {
			return api.ErrShape
		}
	}
	for i, must := range Needed(m) {
		if must && !m.Cards[i] {
			return api.ErrPlace
		}
	}
	return nil
}

func sized(m *mem.Memory) bool {
	if m.Half < 1 || m.Half > 65536 || m.Old < 1 || m.Old > 65536 || m.Card < 1 || m.Card > 1024 || m.Used < 0 || m.Used > 1 {
		return false
	}
	if cards := len(m.Cards); cards*m.Card < m.Old || (cards-1)*m.Card >= m.Old {
		return false
	}
	return len(m.W) == m.Half+m.Half+m.Old && m.Top >= 0 && m.Top <= m.Half && m.OldTop >= 0 && m.OldTop <= m.Old
}

func rightIDs(m *mem.Memory, l map[int]Thing) bool {
	for i, id := range m.IDs {
		at, ok := At(id.At)
		if _, there := l[at]; !ok || !there || id.Serial <= 0 {
			return false
		}
		for _, other := range m.IDs[:i] {
			if other.At == id.At || other.Serial == id.Serial {
				return false
			}
		}
	}
	return true
}

// Needed: which cards must be marked.
func Needed(m *mem.Memory) []bool {
	out := make([]bool, len(m.Cards))
	for at, x := range Things(m) {
		for i, w := range x.Fields {
			if !x.Raw() && at >= m.Half+m.Half && Young(m, w) {
				out[(at+1+i-2*m.Half)/m.Card] = true
			}
		}
	}
	return out
}

// Same: whether two memories have the same in all fields.
func Same(a, b *mem.Memory) bool {
	return a.Half == b.Half && a.Old == b.Old && a.Card == b.Card && a.Used == b.Used && a.Top == b.Top && a.OldTop == b.OldTop &&
		slices.Equal(a.W, b.W) && slices.Equal(a.Roots, b.Roots) && slices.Equal(a.Weak, b.Weak) &&
		slices.Equal(a.IDs, b.IDs) && slices.Equal(a.Cards, b.Cards)
}
