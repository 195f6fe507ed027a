// Package moved: where objects of a memory went, for all that points to them to follow.
package moved

import (
	"nurserypy/api"
	"nurserypy/mem"
	"nurserypy/word"
)

const none = api.None<<2 | api.Const

// Places of objects that went from some words of a memory to others.
type Places struct {
	from, end int
	went      map[int]int
}

// Out of the words from one place on, up to another: so far no object of them went anywhere.
func Out(from, end int) Places { return Places{from, end, map[int]int{}} }

// Note where an object went.
func (p Places) Note(at, to int) { p.went[at] = to }

// Now tells what a word is by now: another one, where it points to an object that went; None, and false, where it
// points to one that lay among those words, and went nowhere.
func (p Places) Now(w api.Word) (api.Word, bool) {
	at, err := word.ToAddr(w)
	if err != nil || at < p.from || at >= p.end {
		return w, true
	}
	to, ok := p.went[at]
	if !ok {
		return none, false
	}
	now, err := word.OfAddr(to)
	return now, err == nil
}

// Follow lets words follow: those whose object went nowhere become None.
func (p Places) Follow(l []api.Word) {
	for i, w := range l {
		l[i], _ = p.Now(w)
	}
}

// FollowWeakly lets Weak and IDs of a memory follow, which keep no object where it was.
func (p Places) FollowWeakly(m *mem.Memory) {
	p.Follow(m.Weak)
	kept := make([]mem.ID, 0, len(m.IDs))
	for _, id := range m.IDs {
		if at, ok := p.Now(id.At); ok {
			kept = append(kept, mem.ID{At: at, Serial: id.Serial})
		}
	}
	m.IDs = kept
}
