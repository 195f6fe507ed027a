package major

import (
	"slices"

	"nurserypy/mem"
	"nurserypy/moved"
	"nurserypy/word"
)

// A slider moves objects to the old space, one behind the other, and knows where they go.
type slider struct {
	*mem.Memory
	moved.Places
	moves []move
	top   int // behind the last object, once all have moved
}

// A move of an object, from one place to another.
type move struct {
	from, to int
	head     word.Head
}

// plan where objects go, before any of them does: by that it is known whether there is room, and each pointer to them
// can follow at once.
func plan(m *mem.Memory, objects []int) *slider {
	s := &slider{Memory: m, Places: moved.Out(0, len(m.W)), top: oldFrom(m)}
	for _, at := range oldFirst(objects, oldFrom(m)) {
		o, _ := word.ToHead(m.W[at]) // no error: the memory checks
		s.Note(at, s.top)
		s.moves = append(s.moves, move{at, s.top, o})
		s.top += 1 + o.Size
	}
	return s
}

// oldFirst puts places in order: those of the old space come ahead of those of the nursery.
func oldFirst(places []int, old int) []int {
	slices.Sort(places)
	first, _ := slices.BinarySearch(places, old)
	return slices.Concat(places[first:], places[:first])
}

// slide all objects to where they go. Those of the old space go first, downward and in their order: so none of them
// comes to lie upon one that has to move still.
func (s *slider) slide() {
	// The lists may be words of this very memory, in which objects come to lie.
	s.Roots, s.Weak = slices.Clone(s.Roots), slices.Clone(s.Weak)
	s.Follow(s.Roots)
	s.FollowWeakly(s.Memory)
	for _, v := range s.moves {
		s.carry(v)
	}
	clear(s.Cards)
	s.Top, s.OldTop = 0, s.top-oldFrom(s.Memory)
}

func (s *slider) carry(v move) {
	words := s.W[v.to : v.to+1+v.head.Size]
	copy(words, s.W[v.from:])
	v.head.Age = 0
	words[0], _ = word.OfHead(v.head)
	if !mem.Raw(v.head.Kind) {
		s.Follow(words[1:])
	}
}

// oldFrom is where the old space begins.
func oldFrom(m *mem.Memory) int { return 2 * m.Half }
