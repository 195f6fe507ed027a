package mem_test

import (
	"math"
	"slices"
	"strings"
	"testing"

	"nurserypy/api"
	"nurserypy/mem"
)

func TestGraph(t *testing.T) {
	m := laid(t)
	for i, c := range []struct {
		how  func()
		want string
		live int
	}{
		{func() {}, `root @0
root -1
root false
root nowhere
root @1
0 9 @2 nowhere true
1 7 0x0000000000000003 0xffffffffffffffff
2 8 5 none
weak @
weak none
weak 3
weak nowhere
id 1 @2
`, 10},
		{func() { m.Roots = []api.Word{ptr(32), ptr(31), ptr(32), ptr(28)} }, `root @0
root @1
root @0
root @2
0 8 @3
1 255
2 0 0x0000000000000034 0x000000000000004d
3 9 @4 nowhere true
4 8 5 none
weak @1
weak none
weak 3
weak nowhere
id 1 @4
id 9 @0
`, 13},
		{func() { m.Roots, m.Weak, m.IDs = nil, nil, nil }, "", 0},
		{func() { m.Weak = []api.Word{ptr(12), ptr(24)} }, "weak @\nweak @\n", 0},
		{func() { m.Roots = []api.Word{ptr(28)} }, "root @0\n0 0 0x0000000000000034 0x000000000000004d\nweak @\nweak @\n", 3},
		{func() { m.Roots = []api.Word{ptr(12)} }, "root @0\n0 8 5 none\nweak @0\nweak @\n", 3},
	} {
		c.how()
		if got, err := m.Graph(); got != c.want || err != nil {
			t.Errorf("%d: %v\n%s", i, err, got)
		}
		if n, err := m.Live(); n != c.live || err != nil {
			t.Errorf("%d: %d live, %v", i, n, err)
		}
	}
}

// Objects are told where they are come to first, each once, wherever they lie.
func TestReached(t *testing.T) {
	m := laid(t)
	for i, c := range []struct{ roots, want []int }{
		{nil, nil}, {[]int{28}, []int{28}}, {[]int{32, 31, 32, 28}, []int{32, 31, 28, 24, 12}}, {[]int{12, 32}, []int{12, 32, 24}},
	} {
		m.Roots = []api.Word{none, small(3), nowhere}
		for _, at := range c.roots {
			m.Roots = append(m.Roots, ptr(at), trueWord)
		}
		if l, err := m.Reached(); !slices.Equal(l, c.want) || err != nil {
			t.Error(i, l, err)
		}
	}
	m.Roots = []api.Word{ptr(13)}
	if l, err := m.Reached(); len(l) > 0 || err != api.ErrShape {
		t.Error(l, err)
	}
	m = nil
	if l, err := m.Reached(); len(l) > 0 || err != api.ErrShape {
		t.Error(l, err)
	}
}

// The document's example: a list of itself.
func TestSelf(t *testing.T) {
	m := fresh(t, 5, 5, 1)
	p := alloc(t, m, 8, nowhere)
	if err := m.Put(p, 0, p); err != nil {
		t.Fatal(err)
	}
	m.Roots = []api.Word{p}
	if s, err := m.Graph(); s != "root @0\n0 8 @0\n" || err != nil {
		t.Errorf("%q, %v", s, err)
	}
	if n, err := m.Live(); n != 2 || err != nil {
		t.Error(n, err)
	}
}

func TestGraphWords(t *testing.T) {
	for w, want := range map[api.Word]string{
		nowhere: "nowhere", none: "none", falseWord: "false", trueWord: "true", small(0): "0", small(7): "7", small(-12): "-12",
		small(api.MaxSmall - 1): "2305843009213693951", small(-api.MaxSmall): "-2305843009213693952",
	} {
		m := fresh(t, 5, 5, 1)
		m.Roots = []api.Word{w, alloc(t, m, 200, w)}
		m.Weak = []api.Word{w}
		text := "root " + want + "\nroot @0\n0 200 " + want + "\nweak " + want + "\n"
		if s, err := m.Graph(); s != text || err != nil {
			t.Errorf("%#x: %q, %v", w, s, err)
		}
	}
	for w, want := range map[api.Word]string{0: "0x0000000000000000", 0x123456789abcdef0: "0x123456789abcdef0", math.MaxUint64: "0xffffffffffffffff", 1 << 63: "0x8000000000000000", 10: "0x000000000000000a"} {
		m := fresh(t, 5, 5, 1)
		m.Roots = []api.Word{alloc(t, m, 3, w)}
		if s, err := m.Graph(); s != "root @0\n0 3 "+want+"\n" || err != nil {
			t.Errorf("%#x: %q, %v", w, s, err)
		}
	}
}

// Objects are numbered object by object, not as deep as it goes first; IDs stand by their serials, as numbers.
func TestGraphOrder(t *testing.T) {
	m := fresh(t, 40, 5, 1)
	leaf := func(n int64) api.Word { return alloc(t, m, 9, small(n)) }
	a, b, c, d := leaf(0), leaf(1), leaf(2), leaf(3)
	left := alloc(t, m, 8, a, b)
	right := alloc(t, m, 8, c, d, left)
	m.Roots = []api.Word{alloc(t, m, 8, left, right, d), c}
	m.IDs = []mem.ID{{At: d, Serial: 10}, {At: a, Serial: 9}, {At: b, Serial: 100}, {At: c, Serial: 1}}
	want := "root @0\nroot @1\n0 8 @2 @3 @4\n1 9 2\n2 8 @5 @6\n3 8 @1 @4 @2\n4 9 3\n5 9 0\n6 9 1\nid 1 @1\nid 9 @5\nid 10 @4\nid 100 @6\n"
	if s, err := m.Graph(); s != want || err != nil {
		t.Errorf("%v\n%s", err, s)
	}
	if n, err := m.Live(); n != m.Top || err != nil {
		t.Error(n, m.Top, err)
	}
	if m.IDs[0].Serial != 10 || m.IDs[3].Serial != 1 {
		t.Error("the IDs have been put in order in the memory itself")
	}
}

// A chain through all of the greatest memory.
func TestGraphDeep(t *testing.T) {
	m := fresh(t, api.MaxWords, api.MaxWords, 1024)
	last := nowhere
	for i := 0; i < api.MaxWords; i += 2 {
		m.W[i], m.W[i+1] = head(8, 1), last
		last = ptr(i)
	}
	m.Top = api.MaxWords
	for i := 2 * api.MaxWords; i < 3*api.MaxWords; i += 2 {
		m.W[i], m.W[i+1] = head(8, 1), last
		last = ptr(i)
	}
	m.OldTop, m.Cards[0] = api.MaxWords, true
	m.Roots = []api.Word{last}
	if n, err := m.Live(); n != 2*api.MaxWords || err != nil {
		t.Error(n, err)
	}
	s, err := m.Graph()
	if strings.Count(s, "\n") != api.MaxWords+1 || !strings.HasSuffix(s, "\n65535 8 nowhere\n") || err != nil {
		t.Error(strings.Count(s, "\n"), err)
	}
}
