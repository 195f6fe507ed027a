package moved_test

import (
	"slices"
	"testing"

	"nurserypy/api"
	"nurserypy/mem"
	"nurserypy/moved"
)

func ptr(at int) api.Word { return api.Word(at+1) * 4 }

func TestNow(t *testing.T) {
	p := moved.Out(10, 20)
	p.Note(10, 40)
	p.Note(19, 3)
	p.Note(12, 12)
	for _, c := range []struct {
		w, now api.Word
		ok     bool
	}{
		{ptr(10), ptr(40), true}, {ptr(19), ptr(3), true}, {ptr(12), ptr(12), true},
		{ptr(11), 2, false}, {ptr(18), 2, false},
		{ptr(9), ptr(9), true}, {ptr(20), ptr(20), true}, {ptr(0), ptr(0), true},
		{0, 0, true}, {2, 2, true}, {10, 10, true}, {45, 45, true}, {47, 47, true},
	} {
		if now, ok := p.Now(c.w); now != c.now || ok != c.ok {
			t.Errorf("%#x: %#x, %v", c.w, now, ok)
		}
	}
}

func TestFollow(t *testing.T) {
	p := moved.Out(0, 20)
	p.Note(5, 30)
	l := []api.Word{ptr(5), ptr(6), 0, 6, 21, ptr(20), ptr(5), ptr(5)}
	p.Follow(l[:7])
	if want := []api.Word{ptr(30), 2, 0, 6, 21, ptr(20), ptr(30), ptr(5)}; !slices.Equal(l, want) {
		t.Error(l)
	}
	p.Follow(nil)
}

func TestFollowWeakly(t *testing.T) {
	p := moved.Out(0, 20)
	p.Note(5, 30)
	p.Note(8, 0)
	m := &mem.Memory{
		Weak: []api.Word{ptr(5), ptr(6), 0, 6, ptr(8), ptr(25), ptr(5)},
		IDs:  []mem.ID{{At: ptr(6), Serial: 4}, {At: ptr(8), Serial: 9}, {At: ptr(25), Serial: 1}, {At: ptr(7), Serial: 2}, {At: ptr(5), Serial: 3}},
	}
	p.FollowWeakly(m)
	if !slices.Equal(m.Weak, []api.Word{ptr(30), 2, 0, 6, ptr(0), ptr(25), ptr(30)}) {
		t.Error(m.Weak)
	}
	if !slices.Equal(m.IDs, []mem.ID{{At: ptr(0), Serial: 9}, {At: ptr(25), Serial: 1}, {At: ptr(30), Serial: 3}}) {
		t.Error(m.IDs)
	}
}
