package mem

import (
	"nurserypy/api"
	"nurserypy/word"
)

// each hands the objects to do, one by one, those of the nursery first: where each begins, and its header. It ends, and
// answers false, where do does so, or where something lies in a used part that is no object.
func (m *Memory) each(do func(at int, o word.Head) bool) bool {
	return m.eachYoung(do) && m.eachOld(do)
}

func (m *Memory) eachYoung(do func(at int, o word.Head) bool) bool {
	return eachOf(m.W[:m.nursery()+m.Top], m.nursery(), do)
}

func (m *Memory) eachOld(do func(at int, o word.Head) bool) bool {
	return eachOf(m.W[:m.oldFrom()+m.OldTop], m.oldFrom(), do)
}

func eachOf(w []api.Word, from int, do func(at int, o word.Head) bool) bool {
	for from < len(w) {
		o, err := word.ToHead(w[from])
		end := from + words(o)
		if err != nil || end > len(w) || !do(from, o) {
			return false
		}
		from = end
	}
	return true
}

// words is how many an object takes.
func words(o word.Head) int { return 1 + o.Size }

// fields of the object that begins at a word: they are words of the memory itself.
func (m *Memory) fields(at int, o word.Head) []api.Word { return m.W[at+1 : at+words(o)] }

// object tells where the object lies that p points to, and its header, unless p points to none.
func (m *Memory) object(h heads, p api.Word) (at int, o word.Head, ok bool) {
	at, err := word.ToAddr(p)
	if err != nil || !h.begins(at) {
		return 0, word.Head{}, false
	}
	o, err = word.ToHead(m.W[at])
	return at, o, err == nil
}
