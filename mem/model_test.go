package mem_test

import (
	"math/rand"
	"slices"
	"sort"
	"strings"
	"sync"
	"testing"

	"nurserypy/api"
	"nurserypy/checks/made"
	"nurserypy/checks/reading"
	"nurserypy/mem"
)

func TestMadeUp(t *testing.T) {
	objects, deep := 0, 0
	for seed := range 5000 {
		m := made.Memory(seed)
		whole := plainly(m)
		if err := m.Check(); err != nil || reading.Right(m) != nil {
			t.Fatal(seed, err, reading.Right(m))
		}
		text, live := reading.Graph(m)
		if s, err := m.Graph(); s != text || err != nil {
			t.Fatalf("%d: %v\n%s\nwant\n%s", seed, err, s, text)
		}
		if n, err := m.Live(); n != live || err != nil {
			t.Fatal(seed, n, live, err)
		}
		if l, err := m.Reached(); !slices.Equal(l, reading.Reached(m)) || err != nil {
			t.Fatal(seed, l, reading.Reached(m), err)
		}
		for at, x := range reading.Things(m) {
			for i, w := range x.Fields {
				if got, err := m.Get(ptr(at), i); got != w || err != nil {
					t.Fatal(seed, at, i, got, w, err)
				}
			}
		}
		if !reading.Same(m, &whole) {
			t.Fatal(seed, "changed")
		}
		objects += len(reading.Things(m))
		deep += strings.Count(text, "\n")
	}
	if objects < 50000 || deep < 30000 {
		t.Error("few objects, or few that can be come to:", objects, deep)
	}
}

func TestSpoilt(t *testing.T) {
	told := map[error]int{}
	for seed := range 40000 {
		m := made.Memory(seed % 2000)
		for i := range 1 + seed%2 {
			made.Spoil(m, 2*seed+i)
		}
		whole := plainly(m)
		want := reading.Right(m)
		told[want]++
		if err := m.Check(); err != want {
			t.Fatalf("%d: %v, want %v\n%v", seed, err, want, m)
		}
		s, err := m.Graph()
		n, bad := m.Live()
		if want != nil && (s != "" || n != 0) || err != want || bad != want {
			t.Fatal(seed, s, n, err, bad, want)
		}
		if l, err := m.Reached(); want != nil && len(l) > 0 || err != want {
			t.Fatal(seed, l, err, want)
		}
		if !reading.Same(m, &whole) {
			t.Fatal(seed, "changed")
		}
	}
	if told[nil] < 5000 || told[api.ErrShape] < 5000 || told[api.ErrPlace] < 200 {
		t.Error(told)
	}
}

// act: one call of P82 with whatever is handed to it; what must be answered, and what the memory must be then.
func act(t *testing.T, r *rand.Rand, m *mem.Memory) error {
	t.Helper()
	l := reading.Things(m)
	word := func() api.Word {
		if r.Intn(3) == 0 {
			return []api.Word{nowhere, none, trueWord, small(-9), 14, 3, ptr(len(m.W)), ptr(m.Top), r.Uint64()}[r.Intn(9)]
		}
		return ptr(r.Intn(len(m.W)))
	}
	good := func() api.Word {
		for {
			if w := word(); reading.May(l, w) || r.Intn(40) == 0 {
				return w
			}
		}
	}
	after := plainly(m)
	if r.Intn(3) == 0 {
		kind := []int{0, 7, 8, 255, -1, 256, r.Intn(256)}[r.Intn(7)]
		fields := make([]api.Word, r.Intn(6))
		var want error
		for i := range fields {
			fields[i] = good()
			if kind > 7 && !reading.May(l, fields[i]) {
				want = api.ErrShape
			}
		}
		at := m.Used*m.Half + m.Top
		switch {
		case kind < 0 || kind > 255:
			want = api.ErrBound
		case want == nil && m.Top+1+len(fields) > m.Half:
			want = api.ErrFull
		case want == nil:
			after.W = slices.Replace(after.W, at, at+1+len(fields), append([]api.Word{head(kind, len(fields))}, fields...)...)
			after.Top += 1 + len(fields)
		}
		p, err := m.Alloc(kind, fields)
		if err != want || want == nil && p != ptr(at) || want != nil && p != 0 || !reading.Same(m, &after) {
			t.Fatalf("Alloc %d %v: %#x, %v, want %v", kind, fields, p, err, want)
		}
		return want
	}
	p, field, w := word(), r.Intn(5)-1, good()
	at := int(p/4) - 1
	x, there := l[at]
	var want error
	switch {
	case !there || p%4 != 0:
		want = api.ErrPlace
	case field < 0 || field >= len(x.Fields):
		want = api.ErrBound
	}
	got, err := m.Get(p, field)
	if err != want || want != nil && got != 0 || want == nil && got != x.Fields[field] || !reading.Same(m, &after) {
		t.Fatalf("Get %#x %d: %#x, %v, want %v", p, field, got, err, want)
	}
	switch {
	case want != nil:
	case x.Kind < 8 || !reading.May(l, w):
		want = api.ErrShape
	default:
		after.W[at+1+field] = w
		if w%4 == 0 && w > 0 && int(w/4) <= 2*m.Half && at >= 2*m.Half {
			after.Cards[(at+1+field-2*m.Half)/m.Card] = true
		}
	}
	if err := m.Put(p, field, w); err != want || !reading.Same(m, &after) {
		t.Fatalf("Put %#x %d %#x: %v, want %v", p, field, w, err, want)
	}
	return want
}

// P85: behind each call the memory checks.
func TestActs(t *testing.T) {
	r := rand.New(rand.NewSource(9))
	told := map[error]int{}
	for seed := range 2000 {
		m := made.Memory(seed)
		for range 40 {
			told[act(t, r, m)]++
			if err := m.Check(); err != nil || reading.Right(m) != nil {
				t.Fatal(seed, err)
			}
		}
	}
	for _, err := range []error{nil, api.ErrBound, api.ErrShape, api.ErrFull, api.ErrPlace} {
		if told[err] < 500 {
			t.Error(err, told[err])
		}
	}
}

// moved: the same objects in other places: in the other half, in another order, some of the nursery's in an old space
// that is greater.
func moved(r *rand.Rand, m *mem.Memory) *mem.Memory {
	l := reading.Things(m)
	c := &mem.Memory{Half: m.Half + r.Intn(9), Old: m.Old + m.Top + r.Intn(9), Card: 1 + r.Intn(12), Used: 1 - m.Used}
	c.W = make([]api.Word, 2*c.Half+c.Old)
	c.Cards = slices.Repeat([]bool{true}, (c.Old+c.Card-1)/c.Card)
	var places []int
	for at := range l {
		places = append(places, at)
	}
	sort.Ints(places)
	r.Shuffle(len(places), func(i, j int) { places[i], places[j] = places[j], places[i] })
	to := map[int]int{}
	for _, at := range places {
		size := 1 + len(l[at].Fields)
		if c.Top+size <= c.Half && r.Intn(2) == 0 {
			to[at] = c.Used*c.Half + c.Top
			c.Top += size
		} else {
			to[at] = 2*c.Half + c.OldTop
			c.OldTop += size
		}
	}
	follow := func(w api.Word) api.Word {
		if w%4 == 0 && w > 0 {
			return ptr(to[int(w/4)-1])
		}
		return w
	}
	for at, x := range l {
		c.W[to[at]] = head(x.Kind, len(x.Fields))
		for i, w := range x.Fields {
			if x.Kind > 7 {
				w = follow(w)
			}
			c.W[to[at]+1+i] = w
		}
	}
	for _, w := range m.Roots {
		c.Roots = append(c.Roots, follow(w))
	}
	for _, w := range m.Weak {
		c.Weak = append(c.Weak, follow(w))
	}
	for _, id := range m.IDs {
		c.IDs = append([]mem.ID{{At: follow(id.At), Serial: id.Serial}}, c.IDs...)
	}
	return c
}

// P85: wherever the objects lie, the graph is the same, and nothing can be told by what is reached.
func TestMoved(t *testing.T) {
	r := rand.New(rand.NewSource(10))
	for seed := range 2000 {
		m := made.Memory(seed)
		c := moved(r, m)
		if err := c.Check(); err != nil {
			t.Fatal(seed, err)
		}
		for range 5 {
			s, err := m.Graph()
			moved, bad := c.Graph()
			if s != moved || err != nil || bad != nil {
				t.Fatalf("%d: %v, %v\n%s\nmoved\n%s", seed, err, bad, s, moved)
			}
			n, _ := m.Live()
			if k, err := c.Live(); n != k || err != nil {
				t.Fatal(seed, n, k, err)
			}
			if !putAlong(t, r, m, c) {
				break
			}
		}
	}
}

// putAlong puts one root into a field of another one, in two memories: false where there is no root.
func putAlong(t *testing.T, r *rand.Rand, m, c *mem.Memory) bool {
	t.Helper()
	if len(m.Roots) == 0 {
		return false
	}
	to, from, field := r.Intn(len(m.Roots)), r.Intn(len(m.Roots)), r.Intn(3)
	if one, other := m.Put(m.Roots[to], field, m.Roots[from]), c.Put(c.Roots[to], field, c.Roots[from]); one != other {
		t.Fatal(one, other)
	}
	one, err := m.Get(m.Roots[to], field)
	other, bad := c.Get(c.Roots[to], field)
	if err != bad || one%4 != other%4 || one%4 != 0 && one != other {
		t.Fatal(one, other, err, bad)
	}
	return true
}

// P3: what lies behind a list's length is neither read nor written. P4: nothing that is handed over is kept.
func TestBehindLengths(t *testing.T) {
	for seed := range 300 {
		m := made.Memory(seed)
		c, untouched := made.Longer(m)
		fields := []api.Word{none, small(1), 3, 3}[:2]
		p, err := m.Alloc(8, fields)
		q, bad := c.Alloc(8, fields)
		if p != q || err != bad || !reading.Same(m, c) || !slices.Equal(fields[:4], []api.Word{none, small(1), 3, 3}) {
			t.Fatal(seed, p, q, err, bad)
		}
		s, _ := m.Graph()
		if got, err := c.Graph(); got != s || err != nil {
			t.Fatal(seed, err)
		}
		if !reading.Same(c.Copy(), m) {
			t.Fatal(seed, "a copy reads behind a length")
		}
		if !untouched() {
			t.Fatal(seed, "written behind a length")
		}
	}
}

// P2: who works side by side, on memories of their own or reading one, is told the same.
func TestSideBySide(t *testing.T) {
	shared := made.Memory(3)
	want, _ := reading.Graph(shared)
	var wait sync.WaitGroup
	for i := range 8 {
		wait.Go(func() {
			for seed := range 100 {
				m := made.Memory(seed)
				text, live := reading.Graph(m)
				s, err := m.Graph()
				n, bad := m.Copy().Live()
				if s != text || n != live || err != nil || bad != nil {
					t.Error(i, seed, err, bad)
				}
				if s, err := shared.Graph(); s != want || err != nil || shared.Check() != nil {
					t.Error(i, seed, err)
				}
			}
		})
	}
	wait.Wait()
}
