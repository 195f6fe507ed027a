package vm

import (
	"nurserypy/api"
	"nurserypy/heap"
	"nurserypy/word"
)

// A stack of slots, in the roots of a heap. A slot is two roots: the first one holds a value, or points nowhere: then the
// slot is empty. But of an int that would need a box each root holds one half: so ints on the stack take no words of the
// heap, however many there are.
type stack struct {
	*heap.Heap
	top int // how many slots there are
}

const half = 32 // bits of an int, in the second root

func first(slot int) int { return 2 * slot }

func second(slot int) int { return 2*slot + 1 }

// must: what the heap answers.
func must[T any](v T, err error) T {
	check(err)
	return v
}

// check throws that the heap is full. (It has no other error to tell: it is asked for nothing that there is not.)
func check(err error) {
	switch err {
	case nil:
	case api.ErrFull:
		panic(full{})
	default:
		panic(err)
	}
}

// resize: from now on there are so many slots; new ones are empty.
func (s *stack) resize(slots int) {
	check(s.Resize(first(slots)))
	s.top = slots
}

// push puts an empty slot on the stack, and tells its number.
func (s *stack) push() int {
	s.resize(s.top + 1)
	return s.top - 1
}

func (s *stack) drop(slots int) { s.resize(s.top - slots) }

// keep lets the uppermost slot come to lie where so many were beneath it.
func (s *stack) keep(instead int) {
	s.copy(s.top-1-instead, s.top-1)
	s.drop(instead)
}

func (s *stack) copy(to, from int) {
	check(s.Copy(first(to), first(from)))
	check(s.Copy(second(to), second(from)))
}

// whole: from now on a slot is what its first root became, if nothing was wrong with that.
func (s *stack) whole(slot int, err error) {
	check(err)
	check(s.Const(second(slot), api.None))
}

func (s *stack) setConst(slot, n int) { s.whole(slot, s.Const(first(slot), n)) }

func (s *stack) setText(slot int, text string) { s.whole(slot, s.Text(first(slot), text)) }

func (s *stack) setInt(slot int, n int64) {
	if _, err := word.OfInt(n); err == nil {
		s.whole(slot, s.Int(first(slot), n))
		return
	}
	check(s.Int(first(slot), n>>half))
	check(s.Int(second(slot), n&(1<<half-1)))
}

// create lets a slot hold a new object, all of whose fields are None.
func (s *stack) create(slot, kind, size int) { s.whole(slot, s.Make(first(slot), kind, size)) }

// get lets a slot become a field of what another one holds.
func (s *stack) get(slot, field, to int) { s.whole(to, s.Get(first(slot), field, first(to))) }

// put lets a field of what a slot holds become what another one holds, in its first root.
func (s *stack) put(slot, field, from int) { check(s.Put(first(slot), field, first(from))) }

// wide tells the int of which a slot holds both halves.
func (s *stack) wide(slot int) (n int64, ok bool) {
	low, err := s.ToInt(second(slot))
	if err != nil {
		return 0, false
	}
	return must(s.ToInt(first(slot)))<<half | low, true
}

func (s *stack) toInt(slot int) (n int64, ok bool) {
	if n, ok := s.wide(slot); ok {
		return n, true
	}
	n, err := s.ToInt(first(slot))
	return n, err == nil
}

// kind of the object that a slot holds; 0: it holds none.
func (s *stack) kind(slot int) int {
	kind, _ := s.Kind(first(slot))
	return kind
}

func (s *stack) word(slot int) api.Word { return must(s.Word(first(slot))) }

func (s *stack) empty(slot int) bool { return s.word(slot) == 0 }

// alike: whether two slots hold the same, or ints, or strs, that are equal.
func (s *stack) alike(slot, other int) bool {
	n, isInt := s.toInt(slot)
	if m, ok := s.toInt(other); ok || isInt {
		return ok && isInt && n == m
	}
	return must(s.Alike(first(slot), first(other)))
}
