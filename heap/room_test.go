package heap_test

import (
	"slices"
	"strconv"
	"strings"
	"testing"

	"nurserypy/api"
	"nurserypy/heap"
	"nurserypy/mem"
)

func live(t *testing.T, h *heap.Heap) int {
	t.Helper()
	n, err := h.Snapshot().Live()
	if err != nil {
		t.Fatal(err)
	}
	return n
}

// The nursery is used to its last word; then it is collected: what is let go makes room, what lives grows older.
func TestNursery(t *testing.T) {
	h := fresh(t, 8, 30, 4, 1, 3)
	ok(t, h.Make(0, 8, 1), h.Make(1, 8, 1), h.Make(2, 8, 3))
	uses(t, h, 8, 0)
	ok(t, h.Const(1, api.None), h.Make(2, 9, 1)) // the other half: 0 and 2; and the new one
	uses(t, h, 8, 0)
	if m := h.Snapshot(); m.Used != 1 {
		t.Error(m.Used)
	}
	ok(t, h.Make(1, 10, 1)) // what has grown old goes to the old space
	uses(t, h, 4, 2)
	shows(t, h, "root @0\nroot @1\nroot @2\n0 8 none\n1 10 none\n2 9 none\n")
}

// How old an object must be is the Config's.
func TestTenure(t *testing.T) {
	for tenure := range 16 {
		h := fresh(t, 8, 8, 4, tenure, 1)
		ok(t, h.Make(0, 8, 2))
		for range tenure {
			ok(t, h.Minor())
			uses(t, h, 3, 0)
		}
		ok(t, h.Minor())
		uses(t, h, 0, 3)
	}
}

// Where the nursery is still too full behind minor.Collect, or that answers ErrFull, all is collected.
func TestMajorForRoom(t *testing.T) {
	h := fresh(t, 8, 30, 4, 15, 3)
	ok(t, h.Make(0, 8, 5), h.Make(1, 9, 3))
	uses(t, h, 4, 6)
	h = fresh(t, 8, 9, 4, 0, 3)
	ok(t, h.Make(0, 8, 7), h.Minor(), h.Const(0, api.None), h.Make(1, 9, 6))
	uses(t, h, 7, 8)
	ok(t, h.Make(2, 10, 6)) // 7 words do not go to the 1 that the old space has left
	uses(t, h, 7, 7)
	shows(t, h, "root none\nroot @0\nroot @1\n0 9"+strings.Repeat(" none", 6)+"\n1 10"+strings.Repeat(" none", 6)+"\n")
}

// An object of more words than the nursery's half lies in the old space; what is put into it there is kept.
func TestGreatObjects(t *testing.T) {
	for half := 2; half <= 7; half++ {
		for card := 1; card <= 20; card++ {
			h := fresh(t, half, 30, card, 1, 2)
			ok(t, h.Make(0, 8, 9))
			uses(t, h, 0, 10)
			want := ""
			for i := range 9 {
				ok(t, h.Int(1, 1<<61+int64(i)), h.Put(0, i, 1))
				right(t, h)
				want += strconv.Itoa(i+1) + " 1 " + strconv.Itoa(1<<61+i) + "\n"
			}
			ok(t, h.Const(1, api.None), h.Minor())
			shows(t, h, "root @0\nroot none\n0 8 @1 @2 @3 @4 @5 @6 @7 @8 @9\n"+want)
		}
	}
	h := fresh(t, 1, api.MaxWords, 1024, 15, 2)
	ok(t, h.Text(0, strings.Repeat("o", api.MaxLength)), h.Make(1, 8, api.MaxFields), h.Put(1, api.MaxFields-1, 0), h.Int(0, 1<<61), h.Put(1, 0, 0))
	uses(t, h, 0, 252+1+api.MaxFields+2)
	right(t, h)
}

// chain: an object behind another one, each of so many words, all from root 0: words at most.
func chain(t *testing.T, h *heap.Heap, each, words int) {
	t.Helper()
	for n := each; n <= words; n += each {
		ok(t, h.Make(1, 8, each-1), h.Put(1, 0, 0), h.Copy(0, 1))
	}
	ok(t, h.Const(1, api.None))
}

// ErrFull only where what lives and what is asked for have more words than the old space; else never.
func TestFull(t *testing.T) {
	full, room := 0, 0
	for half := 1; half <= 9; half++ {
		for words := range 13 {
			for asked := 1; asked <= 14; asked++ {
				for each := 2; each <= 3; each++ {
					h := fresh(t, half, 12, 3, 1, 3)
					chain(t, h, each, words)
					lives, was := live(t, h), h.Show()
					err := h.Make(2, 9, asked-1)
					if lives+asked <= 12 && err != nil || err != nil && err != api.ErrFull || err == nil && lives+asked > 12+half {
						t.Fatal(half, words, asked, each, err)
					}
					if err != nil {
						full++
						shows(t, h, was)
						continue
					}
					room++
					right(t, h)
					if live(t, h) != lives+asked {
						t.Fatal(half, words, asked, each)
					}
				}
			}
		}
	}
	if full < 300 || room < 1000 {
		t.Error(full, room)
	}
}

// What ErrFull leaves as it was: roots, weak references to what lives, serials; and room for less.
func TestFullLeaves(t *testing.T) {
	h := fresh(t, 4, 12, 3, 1, 3)
	ok(t, h.Make(0, 8, 3), h.Text(1, "in"), h.Put(0, 2, 1), h.Int(2, 1<<62))
	for r := range 3 {
		if n, err := h.Serial(2 - r); n != r+1 || err != nil {
			t.Fatal(n, err)
		}
		if n, err := h.Weak(r); n != r || err != nil {
			t.Fatal(n, err)
		}
	}
	want := "root @0\nroot @1\nroot @2\n0 8 none none @1\n1 2 \"in\"\n2 1 4611686018427387904\n"
	for i, err := range []error{h.Make(1, 9, 8), h.Make(0, 9, api.MaxFields), h.Text(2, strings.Repeat("f", 100)), h.Text(1, strings.Repeat("f", 41))} {
		if err != api.ErrFull {
			t.Error(i, err)
		}
		shows(t, h, want)
	}
	for r := range 3 {
		if n, err := h.Serial(r); n != 3-r || err != nil {
			t.Error(n, err)
		}
		if is, err := h.Look(r, r); !is || err != nil {
			t.Error(is, err)
		}
	}
	shows(t, h, want)
	ok(t, h.Make(1, 9, 3))
}

// Where more lives than the old space can take, nothing can be collected: the old space is used as it is.
func TestMoreThanOld(t *testing.T) {
	h := fresh(t, 20, 10, 4, 1, 3)
	ok(t, h.Make(0, 8, 11), h.Make(1, 9, 5), h.Make(2, 10, 3))
	uses(t, h, 18, 4)
	if one, other := h.Minor(), h.Major(); one != api.ErrFull || other != api.ErrFull {
		t.Error(one, other)
	}
	if err := h.Text(2, strings.Repeat("7", 33)); err != api.ErrFull {
		t.Error(err)
	}
	all := "0 8" + strings.Repeat(" none", 11) + "\n1 9" + strings.Repeat(" none", 5) + "\n"
	shows(t, h, "root @0\nroot @1\nroot @2\n"+all+"2 10 none none none\n")
	ok(t, h.Int(2, 1<<61))
	uses(t, h, 20, 4)
	ok(t, h.Put(0, 0, 2), h.Text(2, "thirty-two bytes, as many as can"))
	uses(t, h, 20, 10)
	if err := h.Int(2, 1<<61); err != api.ErrFull {
		t.Error(err)
	}
	ok(t, h.Const(0, api.None), h.Const(2, api.None), h.Minor())
	uses(t, h, 0, 6)
	shows(t, h, "root none\nroot @0\nroot none\n0 9"+strings.Repeat(" none", 5)+"\n")
}

// Minor collects the nursery, and all where the old space has no room for that; Major all.
func TestCollections(t *testing.T) {
	h := fresh(t, 10, 12, 4, 0, 2)
	ok(t, h.Make(0, 8, 6), h.Text(1, "gone"), h.Minor())
	uses(t, h, 0, 10)
	ok(t, h.Const(1, api.None), h.Minor())
	uses(t, h, 0, 10)
	ok(t, h.Make(1, 8, 1), h.Minor())
	uses(t, h, 0, 12)
	ok(t, h.Make(1, 8, 0), h.Minor())
	uses(t, h, 0, 8)
	ok(t, h.Const(0, api.None), h.Minor())
	uses(t, h, 0, 8)
	ok(t, h.Major())
	uses(t, h, 0, 1)
	ok(t, h.Major(), h.Minor())
	uses(t, h, 0, 1)
	shows(t, h, "root none\nroot @0\n0 8\n")
}

// Serials are given one by one to what is asked for, and stay with it; none is given twice.
func TestSerial(t *testing.T) {
	h := fresh(t, 12, 30, 4, 1, 4)
	is := func(r, want int) {
		t.Helper()
		if n, err := h.Serial(r); n != want || err != nil {
			t.Fatal(n, err, want)
		}
	}
	ok(t, h.Make(0, 8, 1), h.Text(1, "s"), h.Int(2, -1<<62), h.Copy(3, 1))
	is(2, 1)
	is(1, 2)
	is(3, 2)
	is(0, 3)
	for i := range 6 {
		ok(t, []func() error{h.Minor, h.Minor, h.Major}[i%3](), h.Make(3, 9, 0))
		is(3, 4+i)
		is(0, 3)
		is(1, 2)
		is(2, 1)
	}
	ok(t, h.Const(0, api.None), h.Const(1, api.None), h.Const(2, api.None), h.Const(3, api.None), h.Major())
	if m := h.Snapshot(); len(m.IDs) != 0 {
		t.Error(m.IDs)
	}
	ok(t, h.Make(0, 8, 0))
	is(0, 10)
	if m := h.Snapshot(); !slices.Equal(m.IDs, []mem.ID{{At: m.Roots[0], Serial: 10}}) {
		t.Error(m.IDs)
	}
}

// A weak reference lasts as long as something else leads to its object, wherever that comes to lie.
func TestWeak(t *testing.T) {
	h := fresh(t, 12, 40, 4, 1, 4)
	ok(t, h.Make(0, 8, 1), h.Text(1, "w"), h.Int(2, 1<<62), h.Put(0, 0, 1))
	for i, r := range []int{0, 1, 2, 1} {
		if n, err := h.Weak(r); n != i || err != nil {
			t.Fatal(n, err)
		}
	}
	looks := func(want ...string) {
		t.Helper()
		for i, s := range want {
			is, err := h.Look(i, 3)
			told := strings.Split(h.Show(), "\n")[3]
			if is != (s != "root none") || err != nil || told != s {
				t.Fatal(i, is, err, told)
			}
		}
		ok(t, h.Const(3, api.None))
	}
	ok(t, h.Const(1, api.None))
	for i := range 8 {
		looks("root @0", "root @2", "root @1", "root @2")
		ok(t, []func() error{h.Minor, h.Major}[i%5/4]())
	}
	ok(t, h.Const(2, api.None), h.Major())
	looks("root @0", "root @1", "root none", "root @1")
	ok(t, h.Put(0, 0, 3), h.Major())
	looks("root @0", "root none", "root none", "root none")
	ok(t, h.Const(0, api.None), h.Major())
	looks("root none", "root none", "root none", "root none")
	uses(t, h, 0, 0)
	if is, err := h.Look(4, 0); is || err != api.ErrPlace {
		t.Error(is, err)
	}
	ok(t, h.Make(0, 8, 0))
	if n, err := h.Weak(0); n != 4 || err != nil {
		t.Error(n, err)
	}
}

// What a weak reference alone leads to may last till Major; looked at, it lasts on, with its serial and all it leads to.
func TestRevived(t *testing.T) {
	h := fresh(t, 12, 40, 4, 0, 2)
	ok(t, h.Make(0, 8, 1), h.Text(1, "leaf"), h.Put(0, 0, 1), h.Const(1, api.None))
	if n, err := h.Serial(0); n != 1 || err != nil {
		t.Fatal(n, err)
	}
	if n, err := h.Weak(0); n != 0 || err != nil {
		t.Fatal(n, err)
	}
	ok(t, h.Minor(), h.Const(0, api.None))
	shows(t, h, "root none\nroot none\n")
	is, err := h.Look(0, 1)
	if !is || err != nil {
		t.Fatal(is, err)
	}
	ok(t, h.Major(), h.Minor())
	shows(t, h, "root none\nroot @0\n0 8 @1\n1 2 \"leaf\"\n")
	if n, err := h.Serial(1); n != 1 || err != nil {
		t.Error(n, err)
	}
}

// A weak reference that is aimed anew is one to that object, whatever became of the other; it is none more.
func TestAim(t *testing.T) {
	h := fresh(t, 12, 40, 4, 1, 3)
	ok(t, h.Make(0, 8, 1), h.Text(1, "other"))
	for r := range 2 {
		if n, err := h.Weak(r); n != r || err != nil {
			t.Fatal(n, err)
		}
	}
	looks := func(weak int, want string) {
		t.Helper()
		is, err := h.Look(weak, 2)
		told := strings.Split(h.Show(), "\n")[2]
		if is != (want != "root none") || err != nil || told != want {
			t.Fatal(weak, is, err, told)
		}
		ok(t, h.Const(2, api.None))
		right(t, h)
	}
	ok(t, h.Aim(0, 1))
	looks(0, "root @1")
	looks(1, "root @1")
	ok(t, h.Const(1, api.None), h.Major())
	looks(0, "root none")
	looks(1, "root none")
	ok(t, h.Int(1, 1<<62), h.Aim(1, 1), h.Minor(), h.Minor(), h.Major())
	looks(0, "root none")
	looks(1, "root @1")
	ok(t, h.Aim(0, 0), h.Minor(), h.Const(1, api.None), h.Major())
	looks(0, "root @0")
	looks(1, "root none")
	if n, err := h.Weak(0); n != 2 || err != nil {
		t.Error(n, err)
	}
}

// There are at most MaxRoots weak references, gone or not; that there is no object is told first.
func TestWeakBound(t *testing.T) {
	h := fresh(t, 4, 8, 4, 1, 2)
	ok(t, h.Make(0, 8, 0))
	for i := range api.MaxRoots {
		if n, err := h.Weak(0); n != i || err != nil {
			t.Fatal(n, err)
		}
	}
	for range 2 {
		for r, want := range []error{api.ErrBound, api.ErrShape} {
			if n, err := h.Weak(r); n != 0 || err != want {
				t.Error(r, n, err)
			}
		}
		ok(t, h.Const(0, api.None), h.Major(), h.Make(0, 8, 0))
	}
	if n, err := h.Weak(2); n != 0 || err != api.ErrPlace {
		t.Error(n, err)
	}
	if is, err := h.Look(api.MaxRoots-1, 0); is || err != nil {
		t.Error(is, err)
	}
}
