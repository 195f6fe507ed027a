package heap

import (
	"nurserypy/api"
	"nurserypy/major"
	"nurserypy/mem"
	"nurserypy/minor"
	"nurserypy/word"
)

const none = api.None<<2 | api.Const

// A store is a memory that makes room by itself. Its memory checks ahead of each call, and behind it: so words are read
// and written here as they are, without asking for that again.
type store struct {
	*mem.Memory
	tenure  int
	serials int // so many were given: a number of an object that is gone is not given again
}

func (s *store) minor() error {
	err := minor.Collect(s.Memory, s.tenure)
	if err == api.ErrFull {
		return s.major()
	}
	return err
}

func (s *store) major() error { return major.Collect(s.Memory) }

// lay a new object. Its fields must lead to no other one: that could move, and no card is marked for it.
func (s *store) lay(kind int, fields ...api.Word) (api.Word, error) {
	head, err := word.OfHead(word.Head{Kind: kind, Size: len(fields)})
	if err != nil {
		return 0, err
	}
	at, err := s.take(1 + len(fields))
	if err != nil {
		return 0, err
	}
	s.W[at] = head
	copy(s.W[at+1:], fields)
	return word.OfAddr(at)
}

// take words for an object: where they begin.
func (s *store) take(words int) (at int, err error) {
	if words > s.left() {
		s.collectFor(words)
	}
	switch {
	case words <= s.left():
		at = s.Used*s.Half + s.Top
		s.Top += words
	case words <= s.Old-s.OldTop:
		at = 2*s.Half + s.OldTop
		s.OldTop += words
	default:
		return 0, api.ErrFull
	}
	return at, nil
}

// left is how many words of the nursery are free.
func (s *store) left() int { return s.Half - s.Top }

// collectFor collects as much as it takes for the nursery to have these words. Where nothing helps, not even that all is
// collected, whoever asks sees it by what is left.
func (s *store) collectFor(words int) {
	if err := minor.Collect(s.Memory, s.tenure); err != nil || words > s.left() {
		_ = s.major()
	}
}

// object tells where the object lies that a word points to, and its header, unless the word points to none.
func (s *store) object(w api.Word) (at int, o word.Head, ok bool) {
	at, err := word.ToAddr(w)
	if err != nil {
		return 0, word.Head{}, false
	}
	o, err = word.ToHead(s.W[at])
	return at, o, err == nil
}
