package major_test

import (
	"math/rand"
	"slices"
	"sync"
	"testing"

	"nurserypy/api"
	"nurserypy/checks/made"
	"nurserypy/checks/reading"
	"nurserypy/major"
	"nurserypy/mem"
	"nurserypy/minor"
)

// slid: what P100 makes of a memory, laid anew. Words that are not used are 0.
func slid(m *mem.Memory) *mem.Memory {
	l, old, to := reading.Things(m), 2*m.Half, map[int]int{}
	order := reading.Reached(m)
	slices.Sort(order)
	out := &mem.Memory{Half: m.Half, Old: m.Old, Card: m.Card, Used: m.Used, W: make([]api.Word, len(m.W)), Cards: make([]bool, len(m.Cards))}
	for _, ofOld := range []bool{true, false} {
		for _, at := range order {
			if at >= old == ofOld {
				to[at] = old + out.OldTop
				out.OldTop += 1 + len(l[at].Fields)
			}
		}
	}
	became := func(w api.Word) api.Word {
		at, ok := reading.At(w)
		if place, stays := to[at]; ok && stays {
			return ptr(place)
		} else if ok {
			return none
		}
		return w
	}
	for from, at := range to {
		x := l[from]
		out.W[at] = head(x.Kind, len(x.Fields))
		for i, w := range x.Fields {
			if !x.Raw() {
				w = became(w)
			}
			out.W[at+1+i] = w
		}
	}
	for _, w := range m.Roots {
		out.Roots = append(out.Roots, became(w))
	}
	for _, w := range m.Weak {
		out.Weak = append(out.Weak, became(w))
	}
	for _, id := range m.IDs {
		if at := became(id.At); at != none {
			out.IDs = append(out.IDs, mem.ID{At: at, Serial: id.Serial})
		}
	}
	return out
}

// bare: a memory whose words that are not used are 0, and whose IDs stand by their serials: neither of that is told by
// the document.
func bare(m *mem.Memory) *mem.Memory {
	c := m.Copy()
	top, old := m.Used*m.Half+m.Top, 2*m.Half
	clear(c.W[:m.Used*m.Half])
	clear(c.W[top:old])
	clear(c.W[old+m.OldTop:])
	slices.SortFunc(c.IDs, func(a, b mem.ID) int { return a.Serial - b.Serial })
	return c
}

// held holds a memory against P100 and P102, and what it was before.
func held(t *testing.T, before, after *mem.Memory) {
	t.Helper()
	if err := after.Check(); err != nil || reading.Right(after) != nil {
		t.Fatal(err, reading.Right(after))
	}
	want := slid(before)
	if got := bare(after); !reading.Same(got, bare(want)) {
		t.Fatalf("%v\nwant\n%v", got, want)
	}
	live, err := after.Live()
	if _, was := reading.Graph(before); live != after.OldTop || live != was || err != nil {
		t.Fatal("live words", live, was, after.OldTop, err)
	}
	sameGraph(t, before, after)
	again := after.Copy()
	if err := major.Collect(again); err != nil || !reading.Same(again, after) {
		t.Fatal("done again something changes", err)
	}
}

// sameGraph: the graphs are the same, but for what was weak and is gone.
func sameGraph(t *testing.T, before, after *mem.Memory) {
	t.Helper()
	was := before.Copy()
	reached := reading.Reached(was)
	for i, w := range was.Weak {
		if at, ok := reading.At(w); ok && !slices.Contains(reached, at) {
			was.Weak[i] = none
		}
	}
	want, _ := reading.Graph(was)
	if got, err := after.Graph(); got != want || err != nil {
		t.Fatalf("another graph, %v:\n%s\nbefore:\n%s", err, got, want)
	}
}

func live(m *mem.Memory) int {
	_, n := reading.Graph(m)
	return n
}

func TestMadeUp(t *testing.T) {
	told, stay, gone := map[error]int{}, 0, 0
	for seed := range 6000 {
		m := made.Memory(seed)
		if live(m) > m.Old {
			told[api.ErrFull]++
			refused(t, m, api.ErrFull)
			continue
		}
		words := m.Top + m.OldTop
		collect(t, m)
		told[nil]++
		stay += m.OldTop
		gone += words - m.OldTop
	}
	if told[nil] < 5000 || told[api.ErrFull] < 100 || stay < 10000 || gone < 10000 {
		t.Error(told, stay, gone)
	}
}

// P101: whatever is wrong with a memory is told as Check tells it, and nothing is done; what is right still is collected.
func TestSpoilt(t *testing.T) {
	told := map[error]int{}
	for seed := range 20000 {
		m := made.Memory(seed % 3000)
		made.Spoil(m, seed)
		want := reading.Right(m)
		if want == nil && live(m) > m.Old {
			want = api.ErrFull
		}
		told[want]++
		if want == nil {
			collect(t, m)
		} else {
			refused(t, m, want)
		}
	}
	for _, err := range []error{nil, api.ErrShape, api.ErrPlace, api.ErrFull} {
		if told[err] < 100 {
			t.Error(err, told[err])
		}
	}
}

// Long lives: objects are made, hang on each other, are let go and grow old; the nursery is collected between.
func TestLives(t *testing.T) {
	r := rand.New(rand.NewSource(12))
	collections, most := 0, 0
	for life := range 60 {
		m := fresh(t, 8+r.Intn(60), 30+r.Intn(200), 1+r.Intn(12))
		m.Roots = slices.Repeat([]api.Word{none}, 1+r.Intn(30))
		for range 40 {
			for range r.Intn(30) {
				made.Step(m, r.Int())
			}
			if r.Intn(3) > 0 && minor.Collect(m, life%16) == nil {
				continue
			}
			if live(m) > m.Old {
				refused(t, m, api.ErrFull)
				break
			}
			collect(t, m)
			collections++
			most = max(most, m.OldTop)
		}
	}
	if collections < 500 || most < 60 {
		t.Error(collections, most)
	}
}

// P3: what lies behind a list's length is neither read nor written.
func TestBehindLengths(t *testing.T) {
	for seed := range 1000 {
		m := made.Memory(seed)
		c, untouched := made.Longer(m)
		if one, other := major.Collect(m), major.Collect(c); one != other || !reading.Same(m, c) {
			t.Fatal(seed, one, other)
		}
		if !untouched() {
			t.Fatal(seed, "written behind a length")
		}
	}
}

// P2: the same memory is collected to the same one, also by those who work side by side.
func TestSideBySide(t *testing.T) {
	var wait sync.WaitGroup
	want := make([]*mem.Memory, 100)
	told := make([]error, len(want))
	for seed := range want {
		want[seed] = made.Memory(seed)
		told[seed] = major.Collect(want[seed])
	}
	for i := range 8 {
		wait.Go(func() {
			for seed := range want {
				m := made.Memory(seed)
				if err := major.Collect(m); err != told[seed] || !reading.Same(m, want[seed]) {
					t.Error(i, seed, err)
				}
			}
		})
	}
	wait.Wait()
}
