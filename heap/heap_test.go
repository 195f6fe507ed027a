package heap_test

import (
	"math"
	"slices"
	"strconv"
	"strings"
	"sync"
	"testing"

	"nurserypy/api"
	"nurserypy/checks/reading"
	"nurserypy/heap"
	"nurserypy/mem"
)

// Words as P70 writes them.
const none api.Word = 2

func head(kind, size int) api.Word { return api.Word(kind*4 + size*65536 + 3) }

func fresh(t *testing.T, half, old, card, tenure, roots int) *heap.Heap {
	t.Helper()
	h, err := heap.New(heap.Config{Half: half, Old: old, Card: card, Tenure: tenure}, roots)
	if err != nil {
		t.Fatal(err)
	}
	return h
}

func ok(t *testing.T, errs ...error) {
	t.Helper()
	for i, err := range errs {
		if err != nil {
			t.Fatal(i, err)
		}
	}
}

// shows: what is told of a heap, whose memory checks.
func shows(t *testing.T, h *heap.Heap, want string) {
	t.Helper()
	if s := h.Show(); s != want {
		t.Fatalf("%q, want %q", s, want)
	}
	right(t, h)
}

// right: the memory checks (P115), also by a second reading.
func right(t *testing.T, h *heap.Heap) {
	t.Helper()
	m := h.Snapshot()
	if one, other := m.Check(), reading.Right(m); one != nil || other != nil {
		t.Fatal(one, other)
	}
}

// uses: so many words are used.
func uses(t *testing.T, h *heap.Heap, nursery, old int) {
	t.Helper()
	if a, b := h.Words(); a != nursery || b != old {
		t.Fatalf("%d and %d words, want %d and %d", a, b, nursery, old)
	}
}

func TestNew(t *testing.T) {
	most := api.MaxWords
	for _, c := range []heap.Config{
		{1, 1, 1, 0}, {1, 1, 1, 15}, {most, most, 1024, 15}, {most, 1, 1, 3}, {1, most, 1024, 0}, {7, 9, 4, 1},
	} {
		for _, roots := range []int{0, 1, 2, api.MaxRoots} {
			h, err := heap.New(c, roots)
			if err != nil {
				t.Fatal(c, roots, err)
			}
			want, err := mem.New(c.Half, c.Old, c.Card)
			if err != nil {
				t.Fatal(err)
			}
			want.Roots = slices.Repeat([]api.Word{none}, roots)
			if m := h.Snapshot(); !reading.Same(m, want) {
				t.Error(c, roots, "another memory")
			}
			uses(t, h, 0, 0)
			shows(t, h, strings.Repeat("root none\n", roots))
		}
	}
}

func TestNewBounds(t *testing.T) {
	far := []int{math.MinInt, math.MinInt + 1, -1, math.MaxInt - 1, math.MaxInt}
	try := func(c heap.Config, roots int) {
		t.Helper()
		if h, err := heap.New(c, roots); h != nil || err != api.ErrBound {
			t.Error(c, roots, err)
		}
	}
	for _, n := range append(far, 0, api.MaxWords+1) {
		try(heap.Config{n, 1, 1, 0}, 1)
		try(heap.Config{1, n, 1, 0}, 1)
	}
	for _, n := range append(far, 0, 1025) {
		try(heap.Config{1, 1, n, 0}, 1)
	}
	for _, n := range append(far, 16) {
		try(heap.Config{1, 1, 1, n}, 1)
	}
	for _, n := range append(far, api.MaxRoots+1) {
		try(heap.Config{1, 1, 1, 0}, n)
	}
	try(heap.Config{}, 0)
	try(heap.Config{-1, -1, -1, -1}, -1)
}

// An int is small, and needs no words, or has a box, and needs 2.
func TestInt(t *testing.T) {
	for _, n := range []int64{
		0, 1, -1, 5, api.MaxSmall - 1, -api.MaxSmall, api.MaxSmall, -api.MaxSmall - 1, 1 << 62, -1 << 62, math.MaxInt64, math.MinInt64,
	} {
		h := fresh(t, 2, 2, 1, 0, 2)
		ok(t, h.Int(1, n))
		digits := strconv.FormatInt(n, 10)
		if n >= -api.MaxSmall && n < api.MaxSmall {
			uses(t, h, 0, 0)
			shows(t, h, "root none\nroot "+digits+"\n")
			continue
		}
		uses(t, h, 2, 0)
		shows(t, h, "root none\nroot @0\n0 1 "+digits+"\n")
		if m := h.Snapshot(); !slices.Equal(m.W[:2], []api.Word{head(1, 1), api.Word(n)}) {
			t.Errorf("%d: %#x", n, m.W)
		}
	}
}

func TestConst(t *testing.T) {
	for n, want := range []string{api.None: "none", api.False: "false", api.True: "true"} {
		h := fresh(t, 1, 1, 1, 0, 2)
		ok(t, h.Int(1, 9), h.Const(1, n))
		shows(t, h, "root none\nroot "+want+"\n")
		uses(t, h, 0, 0)
	}
}

// repr: as P46 writes a str.
func repr(s string) string {
	out := `"`
	for _, b := range []byte(s) {
		switch digits := "0" + strconv.FormatInt(int64(b), 16); {
		case b == 10:
			out += `\n`
		case b == 34:
			out += `\"`
		case b == 92:
			out += `\\`
		case b < 32 || b > 126:
			out += `\x` + digits[len(digits)-2:]
		default:
			out += string(rune(b))
		}
	}
	return out + `"`
}

func TestText(t *testing.T) {
	every := make([]byte, 256)
	for i := range every {
		every[i] = byte(i)
	}
	texts := []string{"a\n", "\"\\", "\x00", string(every), strings.Repeat("\xff", api.MaxLength), strings.Repeat("ab\x00", 600)}
	for n := range 26 {
		texts = append(texts, strings.Repeat("z", n), string(every[200:200+n]), strings.Repeat("\x00", n))
	}
	for _, s := range texts {
		h := fresh(t, 300, 1, 1, 0, 1)
		ok(t, h.Text(0, s))
		words := []api.Word{head(2, 1+(len(s)+7)/8), api.Word(len(s))}
		for i := range len(s) {
			if i%8 == 0 {
				words = append(words, 0)
			}
			words[2+i/8] += api.Word(s[i]) << (i % 8 * 8)
		}
		uses(t, h, len(words), 0)
		shows(t, h, "root @0\n0 2 "+repr(s)+"\n")
		if m := h.Snapshot(); !slices.Equal(m.W[:len(words)], words) {
			t.Errorf("%q: %#x, want %#x", s, m.W[:len(words)], words)
		}
	}
}

func TestTextBound(t *testing.T) {
	h := fresh(t, 300, 1, 1, 0, 1)
	ok(t, h.Text(0, strings.Repeat("x", api.MaxLength)))
	uses(t, h, 252, 0)
	for _, n := range []int{api.MaxLength + 1, api.MaxLength + 8, 1 << 20} {
		if err := h.Text(0, strings.Repeat("x", n)); err != api.ErrBound {
			t.Error(n, err)
		}
	}
	uses(t, h, 252, 0)
}

func TestMake(t *testing.T) {
	for _, kind := range []int{8, 9, 100, 255} {
		for _, size := range []int{0, 1, 2, 17, api.MaxFields} {
			h := fresh(t, 5000, 1, 1, 0, 1)
			ok(t, h.Make(0, kind, size))
			uses(t, h, 1+size, 0)
			shows(t, h, "root @0\n0 "+strconv.Itoa(kind)+strings.Repeat(" none", size)+"\n")
			if w := h.Snapshot().W; w[0] != head(kind, size) || size > 0 && w[size] != none {
				t.Errorf("%#x", w[:size+1])
			}
		}
	}
}

// A field, and a root, may hold whatever there is; what is copied is the same object, not one that is like it.
func TestFields(t *testing.T) {
	h := fresh(t, 40, 40, 4, 1, 4)
	ok(t, h.Make(0, 8, 7))
	ok(t, h.Int(1, -3), h.Put(0, 0, 1))
	ok(t, h.Const(1, api.True), h.Put(0, 1, 1))
	ok(t, h.Int(1, 1<<61), h.Put(0, 2, 1), h.Put(0, 3, 1))
	ok(t, h.Text(1, "q"), h.Put(0, 4, 1))
	ok(t, h.Put(0, 5, 0), h.Const(1, api.False))
	shows(t, h, "root @0\nroot false\nroot none\nroot none\n0 8 -3 true @1 @1 @2 @0 none\n1 1 2305843009213693952\n2 2 \"q\"\n")
	ok(t, h.Copy(3, 0), h.Const(0, api.None))
	for i, want := range []string{"-3", "true", "@0", "@0", "@0", "@0", "none"} {
		ok(t, h.Get(3, i, 2))
		if l := strings.Split(h.Show(), "\n"); l[2] != "root "+want {
			t.Error(i, l)
		}
	}
	ok(t, h.Get(3, 5, 3), h.Get(3, 4, 3)) // a root gives way to what it leads to
	shows(t, h, "root none\nroot false\nroot none\nroot @0\n0 2 \"q\"\n")
	ok(t, h.Copy(3, 3), h.Copy(0, 3), h.Text(1, "q"))
	shows(t, h, "root @0\nroot @1\nroot none\nroot @0\n0 2 \"q\"\n1 2 \"q\"\n")
}

// Show: roots first, objects in the order in which they are come to; nothing of weak references and serials.
func TestShow(t *testing.T) {
	h := fresh(t, 60, 10, 4, 1, 3)
	ok(t, h.Make(2, 8, 2), h.Make(1, 9, 0), h.Put(2, 1, 1), h.Text(0, ""), h.Put(2, 0, 0), h.Make(1, 255, 1), h.Put(1, 0, 1))
	for r := range 3 {
		if _, err := h.Weak(r); err != nil {
			t.Error(err)
		}
		if _, err := h.Serial(r); err != nil {
			t.Error(err)
		}
	}
	shows(t, h, "root @0\nroot @1\nroot @2\n0 2 \"\"\n1 255 @1\n2 8 @0 @3\n3 9\n")
	ok(t, h.Const(0, api.None), h.Const(1, api.None))
	shows(t, h, "root none\nroot none\nroot @0\n0 8 @1 @2\n1 2 \"\"\n2 9\n")
	ok(t, h.Const(2, api.None))
	shows(t, h, "root none\nroot none\nroot none\n")
}

// Snapshot is a copy (P4): neither sees what becomes of the other.
func TestSnapshot(t *testing.T) {
	h := fresh(t, 20, 20, 4, 0, 2)
	ok(t, h.Make(0, 8, 2), h.Minor(), h.Make(1, 9, 1), h.Put(0, 0, 1))
	if _, err := h.Serial(1); err != nil {
		t.Fatal(err)
	}
	if _, err := h.Weak(0); err != nil {
		t.Fatal(err)
	}
	m, kept := h.Snapshot(), h.Snapshot()
	if s, err := m.Graph(); s != "root @0\nroot @1\n0 8 @1 none\n1 9 none\nweak @0\nid 1 @1\n" || err != nil {
		t.Error(s, err)
	}
	want := h.Show()
	clear(m.W)
	clear(m.Roots)
	clear(m.Weak)
	clear(m.IDs)
	clear(m.Cards)
	m.Top, m.OldTop = 0, 0
	shows(t, h, want)
	if !reading.Same(h.Snapshot(), kept) {
		t.Error("the heap has changed")
	}
	again := kept.Copy()
	ok(t, h.Put(1, 0, 0), h.Major(), h.Text(0, "x"), h.Const(1, api.True), h.Minor(), h.Major())
	if !reading.Same(again, kept) {
		t.Error("the copy has changed")
	}
}

// P2: heaps side by side know nothing of each other.
func TestSideBySide(t *testing.T) {
	var wait sync.WaitGroup
	live := func(i int) string {
		p := begin(heap.Config{Half: 9 + i, Old: 60, Card: 3, Tenure: 1}, 5, int64(i))
		out := ""
		for range 300 {
			if err := p.act(); err != nil {
				return err.Error()
			}
			out += p.Show()
		}
		return out
	}
	want := make([]string, 4)
	for i := range want {
		want[i] = live(i)
	}
	for i := range 16 {
		wait.Go(func() {
			if live(i%4) != want[i%4] {
				t.Error(i)
			}
		})
	}
	wait.Wait()
}
