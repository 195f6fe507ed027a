package heap_test

import (
	"math"
	"strings"
	"testing"

	"nurserypy/api"
	"nurserypy/checks/reading"
	"nurserypy/heap"
)

// busy: root 0 None, 1 an object of two fields, 2 a text, 3 an int with a box, 4 a small one; a weak reference, and a serial.
func busy(t *testing.T) *heap.Heap {
	t.Helper()
	h := fresh(t, 12, 20, 4, 1, 5)
	ok(t, h.Make(1, 8, 2), h.Text(2, "t"), h.Int(3, 1<<62), h.Int(4, 4), h.Put(1, 0, 2))
	if _, err := h.Weak(1); err != nil {
		t.Fatal(err)
	}
	if _, err := h.Serial(2); err != nil {
		t.Fatal(err)
	}
	return h
}

func serial(h *heap.Heap, r int) error {
	n, err := h.Serial(r)
	if err != nil && n != 0 {
		panic("a number with an error")
	}
	return err
}

func weak(h *heap.Heap, r int) error {
	n, err := h.Weak(r)
	if err != nil && n != 0 {
		panic("a number with an error")
	}
	return err
}

func look(h *heap.Heap, weak, to int) error {
	is, err := h.Look(weak, to)
	if err != nil && is {
		panic("true with an error")
	}
	return err
}

// P3: the first error that is so, bare; nothing is changed.
func TestFaults(t *testing.T) {
	long := strings.Repeat("l", api.MaxLength+1)
	for i, c := range []struct {
		do   func(h *heap.Heap) error
		want error
	}{
		{func(h *heap.Heap) error { return h.Int(5, 0) }, api.ErrPlace},
		{func(h *heap.Heap) error { return h.Int(-1, 1<<62) }, api.ErrPlace},
		{func(h *heap.Heap) error { return h.Const(5, 9) }, api.ErrPlace},
		{func(h *heap.Heap) error { return h.Const(0, 3) }, api.ErrBound},
		{func(h *heap.Heap) error { return h.Const(1, -1) }, api.ErrBound},
		{func(h *heap.Heap) error { return h.Text(5, long) }, api.ErrPlace},
		{func(h *heap.Heap) error { return h.Text(4, long) }, api.ErrBound},
		{func(h *heap.Heap) error { return h.Make(5, 0, -1) }, api.ErrPlace},
		{func(h *heap.Heap) error { return h.Make(0, 7, 0) }, api.ErrBound},
		{func(h *heap.Heap) error { return h.Make(0, 0, 0) }, api.ErrBound},
		{func(h *heap.Heap) error { return h.Make(0, -1, 0) }, api.ErrBound},
		{func(h *heap.Heap) error { return h.Make(0, 256, 0) }, api.ErrBound},
		{func(h *heap.Heap) error { return h.Make(0, 8, -1) }, api.ErrBound},
		{func(h *heap.Heap) error { return h.Make(0, 8, api.MaxFields+1) }, api.ErrBound},
		{func(h *heap.Heap) error { return h.Copy(5, 0) }, api.ErrPlace},
		{func(h *heap.Heap) error { return h.Copy(0, 5) }, api.ErrPlace},
		{func(h *heap.Heap) error { return h.Copy(-1, -1) }, api.ErrPlace},
		{func(h *heap.Heap) error { return h.Get(5, 0, 0) }, api.ErrPlace},
		{func(h *heap.Heap) error { return h.Get(0, 0, 5) }, api.ErrPlace},
		{func(h *heap.Heap) error { return h.Get(1, 9, -1) }, api.ErrPlace},
		{func(h *heap.Heap) error { return h.Get(0, 0, 1) }, api.ErrShape},
		{func(h *heap.Heap) error { return h.Get(2, 0, 1) }, api.ErrShape},
		{func(h *heap.Heap) error { return h.Get(3, 9, 1) }, api.ErrShape},
		{func(h *heap.Heap) error { return h.Get(4, -1, 1) }, api.ErrShape},
		{func(h *heap.Heap) error { return h.Get(1, 2, 0) }, api.ErrBound},
		{func(h *heap.Heap) error { return h.Get(1, -1, 0) }, api.ErrBound},
		{func(h *heap.Heap) error { return h.Put(5, 0, 0) }, api.ErrPlace},
		{func(h *heap.Heap) error { return h.Put(0, 0, 5) }, api.ErrPlace},
		{func(h *heap.Heap) error { return h.Put(1, 9, -1) }, api.ErrPlace},
		{func(h *heap.Heap) error { return h.Put(0, 0, 1) }, api.ErrShape},
		{func(h *heap.Heap) error { return h.Put(2, 0, 1) }, api.ErrShape},
		{func(h *heap.Heap) error { return h.Put(3, 9, 1) }, api.ErrShape},
		{func(h *heap.Heap) error { return h.Put(4, -1, 1) }, api.ErrShape},
		{func(h *heap.Heap) error { return h.Put(1, 2, 1) }, api.ErrBound},
		{func(h *heap.Heap) error { return h.Put(1, -1, 1) }, api.ErrBound},
		{func(h *heap.Heap) error { return serial(h, 5) }, api.ErrPlace},
		{func(h *heap.Heap) error { return serial(h, 0) }, api.ErrShape},
		{func(h *heap.Heap) error { return serial(h, 4) }, api.ErrShape},
		{func(h *heap.Heap) error { return weak(h, 5) }, api.ErrPlace},
		{func(h *heap.Heap) error { return weak(h, 0) }, api.ErrShape},
		{func(h *heap.Heap) error { return weak(h, 4) }, api.ErrShape},
		{func(h *heap.Heap) error { return look(h, 1, 1) }, api.ErrPlace},
		{func(h *heap.Heap) error { return look(h, -1, 1) }, api.ErrPlace},
		{func(h *heap.Heap) error { return look(h, 0, 5) }, api.ErrPlace},
		{func(h *heap.Heap) error { return look(h, 0, -1) }, api.ErrPlace},
		{func(h *heap.Heap) error { return h.Aim(1, 1) }, api.ErrPlace},
		{func(h *heap.Heap) error { return h.Aim(-1, 0) }, api.ErrPlace},
		{func(h *heap.Heap) error { return h.Aim(0, 5) }, api.ErrPlace},
		{func(h *heap.Heap) error { return h.Aim(0, -1) }, api.ErrPlace},
		{func(h *heap.Heap) error { return h.Aim(0, 0) }, api.ErrShape},
		{func(h *heap.Heap) error { return h.Aim(0, 4) }, api.ErrShape},
	} {
		h := busy(t)
		before := h.Snapshot()
		if err := c.do(h); err != c.want {
			t.Error(i, err, c.want)
		}
		if !reading.Same(h.Snapshot(), before) {
			t.Error(i, "changed")
		}
		if n, err := h.Serial(1); n != 2 || err != nil {
			t.Error(i, n, err)
		}
	}
}

// P1: no number makes a call panic, whichever it is; a heap without roots has no root.
func TestAnyNumbers(t *testing.T) {
	numbers := []int{math.MinInt, math.MinInt + 1, -5000, -1, 0, 1, 2, 5, 4096, 4097, 5000, 1 << 20, math.MaxInt - 1, math.MaxInt}
	for _, roots := range []int{0, 3} {
		h := fresh(t, 9, 30, 2, 1, roots)
		for _, a := range numbers {
			for _, b := range numbers {
				for _, c := range numbers {
					ofRoots := []error{
						h.Make(a, b, c), h.Int(a, int64(b)), h.Const(a, b), h.Copy(a, b), h.Text(a, "x"),
						h.Get(a, b, c), h.Put(a, b, c), serial(h, a), weak(h, a), look(h, a, b), h.Aim(a, b),
					}
					for i, err := range ofRoots {
						if (a < 0 || a >= roots) && i < 9 && err != api.ErrPlace {
							t.Fatal(a, b, c, i, err)
						}
					}
				}
			}
			right(t, h)
		}
	}
}
