package made

import (
	"nurserypy/api"
	"nurserypy/mem"
)

// Memory: the one of this seed. It is laid word by word, as P70 and P80 write it, not by what package mem does; what
// lies in words that are not used is anything.
func Memory(seed int) *mem.Memory {
	l := &layer{maker: maker{state: uint64(seed)*2 + 1}}
	l.Memory = &mem.Memory{Half: 1 + l.below(40), Old: 1 + l.below(70), Card: 1 + l.below(9), Used: l.below(2)}
	l.W = make([]api.Word, 2*l.Half+l.Old)
	for i := range l.W {
		l.W[i] = l.stray()
	}
	l.Top = l.part(l.Used*l.Half, l.Half, 16)
	l.OldTop = l.part(2*l.Half, l.Old, 1)
	l.Cards = make([]bool, (l.Old+l.Card-1)/l.Card)
	for i := range l.Cards {
		l.Cards[i] = l.one(4)
	}
	for _, at := range l.heads {
		l.fill(at)
	}
	for range l.below(6) {
		l.Roots = append(l.Roots, l.value())
	}
	for range l.below(5) {
		l.Weak = append(l.Weak, l.value())
	}
	l.number()
	return l.Memory
}

// A layer lays a memory; it knows where its objects begin.
type layer struct {
	maker
	*mem.Memory
	heads []int
}

// part lays headers into a part of a memory: how many words of it are used.
func (l *layer) part(from, size, ages int) int {
	top, most := 0, l.below(size+1)
	for top < most {
		fields := min(l.below(5), most-top-1)
		l.W[from+top] = api.Word(l.objectKind()<<2|l.below(ages)<<10|fields<<16) | api.Header
		l.heads = append(l.heads, from+top)
		top += 1 + fields
	}
	return top
}

func (l *layer) objectKind() int {
	return []int{0, 7, 8, 255, l.below(8), 8 + l.below(248)}[l.below(6)]
}

// fill lays the fields of an object.
func (l *layer) fill(at int) {
	head := l.W[at]
	for i := at + 1; i <= at+int(head>>16); i++ {
		if head>>2&255 < 8 {
			l.W[i] = l.stray()
			continue
		}
		l.W[i] = l.value()
		if i >= 2*l.Half && l.young(l.W[i]) {
			l.Cards[(i-2*l.Half)/l.Card] = true
		}
	}
}

func (l *layer) young(w api.Word) bool { return w > 0 && w%4 == api.Pointer && int(w/4)-1 < 2*l.Half }

// value: what may stand in a root or a field.
func (l *layer) value() api.Word {
	switch l.below(8) {
	case 0:
		return 0
	case 1:
		return api.Word(l.below(3))<<2 | api.Const
	case 2, 3:
		n := []int64{0, 1, -1, int64(l.below(1000)), -int64(l.below(1000)), api.MaxSmall - 1, -api.MaxSmall}[l.below(7)]
		return api.Word(n)<<2 | api.Small
	}
	if len(l.heads) == 0 {
		return 0
	}
	return pointer(l.heads[l.below(len(l.heads))])
}

// stray: any word, and sometimes one that looks like a pointer or a header of this memory.
func (l *layer) stray() api.Word {
	switch l.below(4) {
	case 0:
		return pointer(l.below(len(l.W)))
	case 1:
		return api.Word(l.below(1<<20)) | api.Header
	}
	return api.Word(l.below(1<<30))<<34 ^ api.Word(l.below(1<<30))
}

func pointer(at int) api.Word { return api.Word(at+1)*4 + api.Pointer }

// number gives some objects serials, in no order.
func (l *layer) number() {
	serials := l.below(3)
	for _, at := range l.heads {
		if l.one(3) {
			serials += 1 + l.below(3)
			l.IDs = append(l.IDs, mem.ID{At: pointer(at), Serial: serials})
		}
	}
	for i := range l.IDs {
		x, y := &l.IDs[i], &l.IDs[l.below(len(l.IDs))]
		x.At, y.At = y.At, x.At
		z := &l.IDs[l.below(len(l.IDs))]
		*x, *z = *z, *x
	}
}
