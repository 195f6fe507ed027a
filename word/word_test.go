package word_test

import (
	"math"
	"math/rand"
	"testing"

	"nurserypy/api"
	"nurserypy/word"
)

// same: whether an error is this one, bare (P3).
func same(err, want error) bool { return err == want }

// edges: numbers near each power of 2, of both signs, and near the ends of 64 bits.
func edges() []int64 {
	l := []int64{math.MinInt64, math.MinInt64 + 1, math.MaxInt64 - 1, math.MaxInt64}
	for i := range 63 {
		for d := int64(-2); d <= 2; d++ {
			l = append(l, 1<<i+d, -1<<i+d)
		}
	}
	return l
}

// words: every word with few bits set, or few not, and some made up.
func words() []api.Word {
	l := []api.Word{0, math.MaxUint64}
	for _, n := range edges() {
		l = append(l, api.Word(n), api.Word(n)<<2|1, api.Word(n)<<16|3)
	}
	r := rand.New(rand.NewSource(7))
	for range 20000 {
		w := r.Uint64() >> r.Intn(64)
		l = append(l, w, ^w, w&^3|uint64(r.Intn(4)), w&(1<<29-1)|3)
	}
	return l
}

func TestInts(t *testing.T) {
	for n, want := range map[int64]api.Word{
		0: 1, 1: 5, 5: 21, -1: math.MaxUint64 - 2, -2: math.MaxUint64 - 6,
		1<<61 - 1: 0x7ffffffffffffffd, -1 << 61: 0x8000000000000001, 1 << 60: 0x4000000000000001,
	} {
		if w, err := word.OfInt(n); w != want || err != nil {
			t.Errorf("%d: %#x, %v; want %#x", n, w, err, want)
		}
		if m, err := word.ToInt(want); m != n || err != nil {
			t.Errorf("%#x: %d, %v; want %d", want, m, err, n)
		}
	}
}

func TestIntBounds(t *testing.T) {
	for _, n := range edges() {
		w, err := word.OfInt(n)
		if n < -api.MaxSmall || n > api.MaxSmall-1 {
			if w != 0 || !same(err, api.ErrBound) {
				t.Errorf("%d: %#x, %v", n, w, err)
			}
			continue
		}
		if w != api.Word(n*4+1) || err != nil {
			t.Errorf("%d: %#x, %v", n, w, err)
		}
		if m, err := word.ToInt(w); m != n || err != nil {
			t.Errorf("%#x: %d, %v; want %d", w, m, err, n)
		}
	}
}

func TestNoInts(t *testing.T) {
	for _, w := range words() {
		n, err := word.ToInt(w)
		if small := w%4 == 1; small && err != nil || !small && (n != 0 || !same(err, api.ErrShape)) {
			t.Errorf("%#x: %d, %v", w, n, err)
		}
	}
}

func TestAddrs(t *testing.T) {
	for a, want := range map[int]api.Word{0: 4, 1: 8, 7: 32, 65535: 1 << 18, 1<<40 - 1: 1 << 42, 1 << 40: 1<<42 + 4} {
		if w, err := word.OfAddr(a); w != want || err != nil {
			t.Errorf("%d: %#x, %v; want %#x", a, w, err, want)
		}
		if b, err := word.ToAddr(want); b != a || err != nil {
			t.Errorf("%#x: %d, %v; want %d", want, b, err, a)
		}
	}
}

func TestAddrBounds(t *testing.T) {
	for _, n := range edges() {
		w, err := word.OfAddr(int(n))
		if n < 0 || n > 1<<40 {
			if w != 0 || !same(err, api.ErrBound) {
				t.Errorf("%d: %#x, %v", n, w, err)
			}
			continue
		}
		if w != api.Word(n+1)*4 || err != nil {
			t.Errorf("%d: %#x, %v", n, w, err)
		}
		if a, err := word.ToAddr(w); int64(a) != n || err != nil {
			t.Errorf("%#x: %d, %v; want %d", w, a, err, n)
		}
	}
}

func TestNoAddrs(t *testing.T) {
	for _, w := range append(words(), 0, 1, 2, 3, 1<<42+8, 1<<63+4, math.MaxUint64-3) {
		a, err := word.ToAddr(w)
		there := w%4 == 0 && w > 0 && w/4-1 <= 1<<40
		if there && err != nil || !there && (a != 0 || !same(err, api.ErrShape)) {
			t.Errorf("%#x: %d, %v", w, a, err)
		}
	}
}

func TestConsts(t *testing.T) {
	for n, want := range []api.Word{api.None: 2, api.False: 6, api.True: 10} {
		if w, err := word.OfConst(n); w != want || err != nil {
			t.Errorf("%d: %#x, %v; want %#x", n, w, err, want)
		}
		if m, err := word.ToConst(want); m != n || err != nil {
			t.Errorf("%#x: %d, %v; want %d", want, m, err, n)
		}
	}
	for _, n := range edges() {
		w, err := word.OfConst(int(n))
		if (n < 0 || n > 2) && (w != 0 || !same(err, api.ErrBound)) {
			t.Errorf("%d: %#x, %v", n, w, err)
		}
	}
}

func TestNoConsts(t *testing.T) {
	for _, w := range append(words(), 0, 1, 2, 3, 6, 10, 14, 1<<63|2, 1<<62|6) {
		n, err := word.ToConst(w)
		there := w == 2 || w == 6 || w == 10
		if there && (err != nil || n != int(w/4)) || !there && (n != 0 || !same(err, api.ErrShape)) {
			t.Errorf("%#x: %d, %v", w, n, err)
		}
	}
}

// byRule: a header as P70 writes it, in sums and products.
func byRule(h word.Head) api.Word {
	return api.Word(h.Kind*4 + h.Age*1024 + h.Mark*16384 + h.Size*65536 + 3)
}

func TestHeads(t *testing.T) {
	for h, want := range map[word.Head]api.Word{
		{}:                                  3,
		{Kind: 1}:                           7,
		{Kind: 255}:                         0x3ff,
		{Age: 1}:                            0x403,
		{Age: 15}:                           0x3c03,
		{Mark: 1}:                           0x4003,
		{Size: 1}:                           0x10003,
		{Size: 4096}:                        0x10000003,
		{Kind: 9, Age: 2, Mark: 1, Size: 3}: 0x34827,
		{Kind: 255, Age: 15, Mark: 1, Size: 4096}: 0x10007fff,
	} {
		if w, err := word.OfHead(h); w != want || err != nil {
			t.Errorf("%v: %#x, %v; want %#x", h, w, err, want)
		}
		if g, err := word.ToHead(want); g != h || err != nil {
			t.Errorf("%#x: %v, %v; want %v", want, g, err, h)
		}
	}
}

func TestAllHeads(t *testing.T) {
	sizes := []int{0, 1, 2, 3, 4, 7, 8, 255, 256, 1000, 2047, 2048, 4095, 4096}
	for i := range 256 * 16 * 2 {
		for _, size := range sizes {
			h := word.Head{Kind: i % 256, Age: i / 256 % 16, Mark: i / 4096, Size: size}
			w, err := word.OfHead(h)
			if g, bad := word.ToHead(w); w != byRule(h) || g != h || err != nil || bad != nil {
				t.Fatalf("%v: %#x, %v; back: %v, %v", h, w, err, g, bad)
			}
		}
	}
	for size := range api.MaxFields + 1 {
		h := word.Head{Kind: size % 256, Size: size}
		if w, err := word.OfHead(h); w != byRule(h) || err != nil {
			t.Fatalf("%v: %#x, %v", h, w, err)
		}
	}
}

func TestHeadBounds(t *testing.T) {
	parts := []struct {
		top int
		of  func(n int) word.Head
	}{
		{255, func(n int) word.Head { return word.Head{Kind: n, Age: 1, Mark: 1, Size: 2} }},
		{15, func(n int) word.Head { return word.Head{Kind: 3, Age: n, Mark: 1, Size: 2} }},
		{1, func(n int) word.Head { return word.Head{Kind: 3, Age: 1, Mark: n, Size: 2} }},
		{api.MaxFields, func(n int) word.Head { return word.Head{Kind: 3, Age: 1, Mark: 1, Size: n} }},
	}
	for i, p := range parts {
		for _, n := range append(edges(), int64(p.top), int64(p.top)+1) {
			h := p.of(int(n))
			w, err := word.OfHead(h)
			if n < 0 || n > int64(p.top) {
				if w != 0 || !same(err, api.ErrBound) {
					t.Errorf("part %d, %v: %#x, %v", i, h, w, err)
				}
			} else if w != byRule(h) || err != nil {
				t.Errorf("part %d, %v: %#x, %v", i, h, w, err)
			}
		}
	}
}

func TestNoHeads(t *testing.T) {
	l := append(words(), 0, 1, 2, 4, 0x8003, 0x10000003+0x10000, 0x10000003|1<<40, 3|1<<40, 3|1<<63, 0x10000003|0x8000)
	for b := range 64 {
		l = append(l, 3|1<<b, 0x10007fff^1<<b, 0x0fff7fff^1<<b)
	}
	for _, w := range l {
		h, err := word.ToHead(w)
		there := w%4 == 3 && w&0x8000 == 0 && w>>16 <= 4096
		if there && (err != nil || byRule(h) != w) || !there && (h != word.Head{} || !same(err, api.ErrShape)) {
			t.Errorf("%#x: %v, %v", w, h, err)
		}
	}
}

func TestKinds(t *testing.T) {
	for _, w := range words() {
		if k := word.Kind(w); k != int(w%4) {
			t.Errorf("%#x: %d", w, k)
		}
	}
	i, _ := word.OfInt(-3)
	a, _ := word.OfAddr(3)
	c, _ := word.OfConst(api.True)
	h, _ := word.OfHead(word.Head{Kind: 3})
	for kind, w := range []api.Word{api.Pointer: a, api.Small: i, api.Const: c, api.Header: h} {
		if word.Kind(w) != kind {
			t.Errorf("%#x: %d; want %d", w, word.Kind(w), kind)
		}
	}
}

// thing: what may be put into a word.
type thing struct {
	kind int
	n    int64
	head word.Head
}

func (x thing) put() (api.Word, error) {
	switch x.kind {
	case api.Pointer:
		return word.OfAddr(int(x.n))
	case api.Small:
		return word.OfInt(x.n)
	case api.Const:
		return word.OfConst(int(x.n))
	}
	return word.OfHead(x.head)
}

// TestUnlikeThings: no two things are one word (P73), and a word is of at most one kind of thing.
func TestUnlikeThings(t *testing.T) {
	var l []thing
	for _, n := range edges() {
		h := word.Head{Kind: int(n & 255), Age: int(n >> 8 & 15), Mark: int(n >> 12 & 1), Size: int(n >> 13 & 4095)}
		l = append(l, thing{kind: api.Pointer, n: n}, thing{kind: api.Small, n: n}, thing{kind: api.Const, n: n}, thing{kind: api.Header, head: h})
	}
	seen := map[api.Word]thing{}
	for _, x := range l {
		w, err := x.put()
		if err != nil {
			continue
		}
		if y, ok := seen[w]; ok && y != x {
			t.Errorf("%#x: %v and %v", w, x, y)
		}
		seen[w] = x
		if word.Kind(w) != x.kind {
			t.Errorf("%#x: %v", w, x)
		}
	}
	for w := range seen {
		reads := 0
		if _, err := word.ToInt(w); err == nil {
			reads++
		}
		if _, err := word.ToAddr(w); err == nil {
			reads++
		}
		if _, err := word.ToHead(w); err == nil {
			reads++
		}
		if _, err := word.ToConst(w); err == nil {
			reads++
		}
		if reads != 1 {
			t.Errorf("%#x: read in %d ways", w, reads)
		}
	}
}

// TestUnlikeWords: what two words tell is unlike (P73).
func TestUnlikeWords(t *testing.T) {
	seen := map[thing]api.Word{}
	for _, w := range words() {
		x := thing{kind: word.Kind(w)}
		if n, err := word.ToInt(w); err == nil {
			x.n = n
		} else if a, err := word.ToAddr(w); err == nil {
			x.n = int64(a)
		} else if c, err := word.ToConst(w); err == nil {
			x.n = int64(c)
		} else if h, err := word.ToHead(w); err == nil {
			x.head = h
		} else {
			continue
		}
		if v, ok := seen[x]; ok && v != w {
			t.Errorf("%v: %#x and %#x", x, v, w)
		}
		seen[x] = w
	}
}
