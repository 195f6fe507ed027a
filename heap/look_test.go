package heap_test

import (
	"fmt"
	"math"
	"strings"
	"testing"

	"nurserypy/api"
	"nurserypy/checks/reading"
	"nurserypy/heap"
)

// What a call of those that read tells, as a text: its answer, or, beside the error, that there is none.
func read[T comparable](v T, err error) string {
	var zero T
	if err != nil && v != zero {
		panic("something with an error")
	}
	if err != nil {
		return err.Error()
	}
	return fmt.Sprint(v)
}

func TestReads(t *testing.T) {
	h := fresh(t, 60, 90, 4, 1, 9)
	ok(t, h.Resize(10))
	ok(t, h.Int(1, -7), h.Int(2, 1<<61), h.Int(3, math.MinInt64), h.Text(4, ""), h.Text(5, "\x00longer than\xff"), h.Make(6, 8, 0), h.Make(7, 255, 3), h.Const(8, api.True))
	shape, place := api.ErrShape.Error(), api.ErrPlace.Error()
	for r, want := range [][4]string{
		{shape, shape, shape, shape},
		{shape, "-7", shape, shape},
		{"1", "2305843009213693952", shape, shape},
		{"1", "-9223372036854775808", shape, shape},
		{"2", shape, "", shape},
		{"2", shape, "\x00longer than\xff", shape},
		{"8", shape, shape, "0"},
		{"255", shape, shape, "3"},
		{shape, shape, shape, shape},
		{shape, shape, shape, shape},
		{place, place, place, place},
	} {
		before := h.Snapshot()
		if got := [4]string{read(h.Kind(r)), read(h.ToInt(r)), read(h.ToText(r)), read(h.Size(r))}; got != want {
			t.Errorf("root %d: %q, want %q", r, got, want)
		}
		if !reading.Same(h.Snapshot(), before) {
			t.Error(r, "changed")
		}
	}
	for r, w := range h.Snapshot().Roots {
		if got, err := h.Word(r); got != w || err != nil {
			t.Error(r, got, err)
		}
	}
	if heap.BoxKind != 1 || heap.TextKind != 2 {
		t.Error("kinds of raw objects")
	}
}

func TestAlike(t *testing.T) {
	h := fresh(t, 99, 99, 4, 1, 14)
	ok(t, h.Int(1, 5), h.Int(2, 5), h.Int(3, 1<<61), h.Int(4, 1<<62), h.Int(5, 1<<62), h.Text(6, "abcdefghi"), h.Text(7, "abcdefghi"))
	ok(t, h.Text(8, "abcdefgh"), h.Text(9, "abcdefgh\x00"), h.Make(10, 8, 0), h.Make(11, 8, 0), h.Copy(12, 11), h.Text(13, ""))
	kinds := "01123344567889" // those with the same digit are alike
	for r := range kinds {
		for s := range kinds {
			if got, err := h.Alike(r, s); got != (kinds[r] == kinds[s]) || err != nil {
				t.Error(r, s, got, err)
			}
		}
	}
	// However old they are, and wherever they lie.
	ok(t, h.Minor(), h.Text(6, "abcdefghi"), h.Int(4, 1<<62))
	for _, l := range [][2]int{{6, 7}, {7, 6}, {4, 5}, {5, 4}} {
		if got, err := h.Alike(l[0], l[1]); !got || err != nil {
			t.Error(l, got, err)
		}
	}
	for _, l := range [][2]int{{-1, 0}, {0, -1}, {14, 0}, {0, 14}} {
		if got, err := h.Alike(l[0], l[1]); got || err != api.ErrPlace {
			t.Error(l, got, err)
		}
	}
}

func TestFind(t *testing.T) {
	h := fresh(t, 99, 99, 4, 1, 4)
	ok(t, h.Make(0, 8, 6), h.Text(1, "a"), h.Put(0, 1, 1), h.Int(1, 1<<62), h.Put(0, 3, 1), h.Put(0, 4, 0), h.Put(0, 5, 1))
	ok(t, h.Text(1, "a"), h.Int(2, 1<<62)) // the fields: None, "a", None, 1<<62, itself, 1<<62
	for _, row := range []struct{ from, count, like, want int }{
		{0, 6, 1, 1}, {1, 1, 1, 1}, {2, 4, 1, -1}, {0, 1, 1, -1}, {0, 0, 1, -1}, {6, 0, 1, -1},
		{0, 6, 2, 3}, {3, 3, 2, 3}, {4, 2, 2, 5}, {4, 1, 2, -1}, {0, 6, 0, 4}, {0, 6, 3, 0}, {1, 5, 3, 2},
	} {
		if got, err := h.Find(0, row.from, row.count, row.like); got != row.want || err != nil {
			t.Error(row, got, err)
		}
	}
}

func TestMove(t *testing.T) {
	for _, row := range []struct {
		field, from, count int
		want               string
	}{
		{0, 0, 5, "1 2 3 4 5"}, {0, 1, 4, "2 3 4 5 5"}, {1, 0, 4, "1 1 2 3 4"}, {3, 0, 2, "1 2 3 1 2"}, {5, 0, 0, "1 2 3 4 5"}, {2, 4, 1, "1 2 5 4 5"},
	} {
		h := fresh(t, 99, 99, 4, 1, 3)
		ok(t, h.Make(0, 8, 5))
		for n := range 5 {
			ok(t, h.Int(2, int64(n+1)), h.Put(0, n, 2))
		}
		ok(t, h.Copy(1, 0), h.Move(0, row.field, 1, row.from, row.count), h.Const(2, 0))
		shows(t, h, "root @0\nroot @0\nroot none\n0 8 "+row.want+"\n")
	}
	// Cards are marked, where something young comes to lie in what is old.
	for card := 1; card < 9; card++ {
		h := fresh(t, 99, 99, card, 1, 3)
		ok(t, h.Make(0, 8, 20), h.Major(), h.Make(1, 9, 4), h.Text(2, "young"), h.Put(1, 2, 2), h.Move(0, 13, 1, 1, 3))
		right(t, h)
		ok(t, h.Const(1, 0), h.Const(2, 0), h.Minor())
		shows(t, h, "root @0\nroot none\nroot none\n0 8"+strings.Repeat(" none", 14)+" @1"+strings.Repeat(" none", 5)+"\n1 2 \"young\"\n")
	}
}

func TestResize(t *testing.T) {
	h := fresh(t, 99, 99, 4, 1, 2)
	ok(t, h.Int(1, 5), h.Resize(3))
	shows(t, h, "root none\nroot 5\nroot nowhere\n")
	ok(t, h.Make(2, 8, 1), h.Resize(2), h.Resize(4))
	shows(t, h, "root none\nroot 5\nroot nowhere\nroot nowhere\n")
	ok(t, h.Make(0, 8, 1), h.Put(0, 0, 3), h.Copy(1, 2), h.Get(0, 0, 3))
	shows(t, h, "root @0\nroot nowhere\nroot nowhere\nroot nowhere\n0 8 nowhere\n")
	ok(t, h.Minor(), h.Major())
	shows(t, h, "root @0\nroot nowhere\nroot nowhere\nroot nowhere\n0 8 nowhere\n")
	// What a root let go of takes no room.
	ok(t, h.Resize(0), h.Major())
	uses(t, h, 0, 0)
	if err := h.Int(0, 1); err != api.ErrPlace {
		t.Error(err)
	}
	most := 64 * api.MaxRoots
	ok(t, h.Resize(most), h.Int(most-1, 5), h.Minor(), h.Resize(1))
	for _, n := range []int{-1, most + 1, math.MinInt, math.MaxInt} {
		if err := h.Resize(n); err != api.ErrBound {
			t.Error(n, err)
		}
	}
	shows(t, h, "root nowhere\n")
}

// The first error that is so; nothing is changed.
func TestRowFaults(t *testing.T) {
	for i, row := range []struct {
		got  func(h *heap.Heap) string
		want error
	}{
		{func(h *heap.Heap) string { return read(h.Word(5)) }, api.ErrPlace},
		{func(h *heap.Heap) string { return read(h.Word(-1)) }, api.ErrPlace},
		{func(h *heap.Heap) string { return read(h.Find(5, 9, 9, 0)) }, api.ErrPlace},
		{func(h *heap.Heap) string { return read(h.Find(0, 9, 9, 5)) }, api.ErrPlace},
		{func(h *heap.Heap) string { return read(h.Find(0, 9, 9, 1)) }, api.ErrShape},
		{func(h *heap.Heap) string { return read(h.Find(2, 0, 0, 1)) }, api.ErrShape},
		{func(h *heap.Heap) string { return read(h.Find(3, 0, 1, 1)) }, api.ErrShape},
		{func(h *heap.Heap) string { return read(h.Find(1, 0, 3, 1)) }, api.ErrBound},
		{func(h *heap.Heap) string { return read(h.Find(1, 3, 0, 1)) }, api.ErrBound},
		{func(h *heap.Heap) string { return read(h.Find(1, -1, 1, 1)) }, api.ErrBound},
		{func(h *heap.Heap) string { return read(h.Find(1, 1, -1, 1)) }, api.ErrBound},
		{func(h *heap.Heap) string { return read(h.Find(1, 1, math.MaxInt, 1)) }, api.ErrBound},
		{func(h *heap.Heap) string { return read(0, h.Move(5, 9, 0, 9, 9)) }, api.ErrPlace},
		{func(h *heap.Heap) string { return read(0, h.Move(0, 9, 5, 9, 9)) }, api.ErrPlace},
		{func(h *heap.Heap) string { return read(0, h.Move(0, 9, 1, 0, 1)) }, api.ErrShape},
		{func(h *heap.Heap) string { return read(0, h.Move(1, 0, 2, 0, 1)) }, api.ErrShape},
		{func(h *heap.Heap) string { return read(0, h.Move(1, 0, 1, 1, 2)) }, api.ErrBound},
		{func(h *heap.Heap) string { return read(0, h.Move(1, 1, 1, 0, 2)) }, api.ErrBound},
		{func(h *heap.Heap) string { return read(0, h.Move(1, -1, 1, 0, 1)) }, api.ErrBound},
		{func(h *heap.Heap) string { return read(0, h.Move(1, 0, 1, -1, 1)) }, api.ErrBound},
		{func(h *heap.Heap) string { return read(0, h.Move(1, 1, 1, 0, -1)) }, api.ErrBound},
	} {
		h := busy(t)
		before := h.Snapshot()
		if got := row.got(h); got != row.want.Error() {
			t.Error(i, got, row.want)
		}
		if !reading.Same(h.Snapshot(), before) {
			t.Error(i, "changed")
		}
	}
}

// P1: no number makes a call panic.
func TestAnyNumbersRead(t *testing.T) {
	numbers := []int{math.MinInt, -1, 0, 1, 2, 4096, 5000, math.MaxInt - 1, math.MaxInt}
	h := busy(t)
	for _, a := range numbers {
		_ = []string{read(h.Word(a)), read(h.Kind(a)), read(h.ToInt(a)), read(h.ToText(a)), read(h.Size(a))}
		for _, b := range numbers {
			_ = read(h.Alike(a, b))
			for _, c := range numbers {
				for _, d := range numbers {
					_ = []string{read(h.Find(1, a, b, c)), read(h.Find(a, b, c, d)), read(0, h.Move(a, b, 1, c, d)), read(0, h.Move(1, a, b, c, d))}
				}
			}
		}
	}
	right(t, h)
}
