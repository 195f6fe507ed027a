package minor_test

import (
	"math/rand"
	"slices"
	"sync"
	"testing"

	"nurserypy/api"
	"nurserypy/checks/made"
	"nurserypy/checks/reading"
	"nurserypy/mem"
	"nurserypy/minor"
)

// kept: where the objects of the nursery lie that P90 lets be copied.
func kept(m *mem.Memory) map[int]reading.Thing {
	l := reading.Things(m)
	out := map[int]reading.Thing{}
	var come func(words []api.Word)
	come = func(words []api.Word) {
		for _, w := range words {
			at, _ := reading.At(w)
			if _, known := out[at]; known || !reading.Young(m, w) {
				continue
			}
			out[at] = l[at]
			if !l[at].Raw() {
				come(l[at].Fields)
			}
		}
	}
	come(m.Roots)
	for at, x := range l {
		for i := range x.Fields {
			if at >= 2*m.Half && !x.Raw() && m.Cards[(at+1+i-2*m.Half)/m.Card] {
				come(x.Fields[i : i+1])
			}
		}
	}
	return out
}

// A pairing of objects of a memory with those that they became.
type pairing struct {
	t             *testing.T
	before, after *mem.Memory
	tenure        int
	to, from      map[int]int
}

// held holds a memory against P90 and P92, and what it was before.
func held(t *testing.T, before, after *mem.Memory, tenure int) {
	t.Helper()
	if err := after.Check(); err != nil || reading.Right(after) != nil {
		t.Fatal(err, reading.Right(after))
	}
	if before.Half != after.Half || before.Old != after.Old || before.Card != after.Card || after.Used != 1-before.Used {
		t.Fatal("other numbers")
	}
	p := &pairing{t, before, after, tenure, map[int]int{}, map[int]int{}}
	p.oldOnes()
	p.words(before.Roots, after.Roots)
	keep, old := kept(before), 0
	for at := range reading.Things(before) {
		if at >= 2*before.Half {
			old++
		}
	}
	for at := range keep {
		if _, copied := p.to[at]; !copied {
			t.Fatal("not copied", at)
		}
	}
	if len(p.to) != len(keep) || len(reading.Things(after)) != len(keep)+old {
		t.Fatal("copied what need not be", len(p.to), len(keep), old)
	}
	p.weak()
	p.ids()
	if want := reading.Needed(after); !slices.Equal(after.Cards, want) {
		t.Fatal("cards", after.Cards, want)
	}
	if tenure == 0 && after.Top != 0 {
		t.Fatal("not empty", after.Top)
	}
	p.graph()
}

// oldOnes: objects of the old space are where they were, and their fields follow.
func (p *pairing) oldOnes() {
	p.t.Helper()
	now := reading.Things(p.after)
	for at, x := range reading.Things(p.before) {
		if at < 2*p.before.Half {
			continue
		}
		y, there := now[at]
		if !there || x.Kind != y.Kind || len(x.Fields) != len(y.Fields) {
			p.t.Fatal("an object of the old space did not stay", at)
		}
		p.fields(x, y)
	}
}

func (p *pairing) fields(x, y reading.Thing) {
	p.t.Helper()
	if x.Raw() {
		if !slices.Equal(x.Fields, y.Fields) {
			p.t.Fatal("a raw one changed")
		}
		return
	}
	p.words(x.Fields, y.Fields)
}

// words: each has become what it should.
func (p *pairing) words(l, now []api.Word) {
	p.t.Helper()
	if len(l) != len(now) {
		p.t.Fatal("not so many", len(l), len(now))
	}
	for i, w := range l {
		if !reading.Young(p.before, w) {
			if now[i] != w {
				p.t.Fatal("changed", w, now[i])
			}
			continue
		}
		p.object(w, now[i])
	}
}

func (p *pairing) object(w, now api.Word) {
	p.t.Helper()
	at, _ := reading.At(w)
	to, ok := reading.At(now)
	if was, known := p.to[at]; known {
		if was != to || !ok {
			p.t.Fatal("copied twice", at, was, to)
		}
		return
	}
	if _, known := p.from[to]; known || !ok {
		p.t.Fatal("no object of its own", at, now)
	}
	p.to[at], p.from[to] = to, at
	x, y := reading.Things(p.before)[at], reading.Things(p.after)[to]
	if x.Kind != y.Kind || len(x.Fields) != len(y.Fields) {
		p.t.Fatal("another kind or size", at, x, y)
	}
	if x.Age >= p.tenure && (to < 2*p.after.Half+p.before.OldTop || y.Age != 0) {
		p.t.Fatal("not grown old", at, x.Age, to, y.Age)
	}
	if x.Age < p.tenure && (to/p.after.Half != p.after.Used || y.Age != x.Age+1) {
		p.t.Fatal("not a year older", at, x.Age, to, y.Age)
	}
	p.fields(x, y)
}

func (p *pairing) weak() {
	p.t.Helper()
	if len(p.before.Weak) != len(p.after.Weak) {
		p.t.Fatal("not so many are weak")
	}
	for i, w := range p.before.Weak {
		if now := p.after.Weak[i]; now != p.became(w) {
			p.t.Fatal("weak", w, now)
		}
	}
}

// became: what a word is by now; None, where its object is gone.
func (p *pairing) became(w api.Word) api.Word {
	if !reading.Young(p.before, w) {
		return w
	}
	at, _ := reading.At(w)
	if to, ok := p.to[at]; ok {
		return ptr(to)
	}
	return none
}

func (p *pairing) ids() {
	p.t.Helper()
	var want []mem.ID
	for _, id := range p.before.IDs {
		if at := p.became(id.At); at != none {
			want = append(want, mem.ID{At: at, Serial: id.Serial})
		}
	}
	bySerial := func(a, b mem.ID) int { return a.Serial - b.Serial }
	got := slices.Clone(p.after.IDs)
	slices.SortFunc(want, bySerial)
	slices.SortFunc(got, bySerial)
	if !slices.Equal(got, want) {
		p.t.Fatal("IDs", got, want)
	}
}

// graph: it is the same, but for what was weak and is gone.
func (p *pairing) graph() {
	p.t.Helper()
	m := p.before.Copy()
	for i, w := range m.Weak {
		if p.became(w) == none {
			m.Weak[i] = none
		}
	}
	want, _ := reading.Graph(m)
	if got, _ := reading.Graph(p.after); got != want {
		p.t.Fatalf("another graph:\n%s\nbefore:\n%s", got, want)
	}
}

func TestMadeUp(t *testing.T) {
	told, copied, grown := map[error]int{}, 0, 0
	for seed := range 6000 {
		m := made.Memory(seed)
		for i := range 3 {
			tenure := (seed + 5*i) % 16
			if m.Top > m.Old-m.OldTop {
				refused(t, m, tenure, api.ErrFull)
				told[api.ErrFull]++
				break
			}
			before := m.OldTop
			collect(t, m, tenure)
			told[nil]++
			copied += m.Top
			grown += m.OldTop - before
		}
	}
	if told[nil] < 5000 || told[api.ErrFull] < 1000 || copied < 5000 || grown < 5000 {
		t.Error(told, copied, grown)
	}
}

// P91: whatever is wrong with a memory is told as Check tells it, and nothing is done; what is right still is collected.
func TestSpoilt(t *testing.T) {
	told := map[error]int{}
	for seed := range 20000 {
		m := made.Memory(seed % 3000)
		made.Spoil(m, seed)
		tenure := seed % 16
		want := reading.Right(m)
		if want == nil && m.Top > m.Old-m.OldTop {
			want = api.ErrFull
		}
		told[want]++
		if want == nil {
			collect(t, m, tenure)
		} else {
			refused(t, m, tenure, want)
		}
	}
	for _, err := range []error{nil, api.ErrShape, api.ErrPlace, api.ErrFull} {
		if told[err] < 100 {
			t.Error(err, told[err])
		}
	}
}

// Long lives: objects are made, hang on each other, are let go, and grow old, until there is no room.
func TestLives(t *testing.T) {
	r := rand.New(rand.NewSource(10))
	collections := 0
	for life := range 60 {
		m := fresh(t, 8+r.Intn(60), 30+r.Intn(400), 1+r.Intn(12))
		m.Roots = slices.Repeat([]api.Word{none}, 1+r.Intn(8))
		tenure := life % 16
		for m.Top <= m.Old-m.OldTop && collections < 100*(life+1) {
			for range r.Intn(20) {
				made.Step(m, r.Int())
			}
			if m.Top <= m.Old-m.OldTop {
				collect(t, m, tenure)
				collections++
			}
		}
	}
	if collections < 2000 {
		t.Error(collections)
	}
}

// P3: what lies behind a list's length is neither read nor written.
func TestBehindLengths(t *testing.T) {
	for seed := range 1000 {
		m := made.Memory(seed)
		c, untouched := made.Longer(m)
		if one, other := minor.Collect(m, seed%16), minor.Collect(c, seed%16); one != other || !reading.Same(m, c) {
			t.Fatal(seed, one, other)
		}
		if !untouched() {
			t.Fatal(seed, "written behind a length")
		}
	}
}

// P2: the same memory is collected to the same one, also by those who work side by side.
func TestSideBySide(t *testing.T) {
	var wait sync.WaitGroup
	want := make([]*mem.Memory, 100)
	for seed := range want {
		want[seed] = made.Memory(seed)
		minor.Collect(want[seed], seed%16)
	}
	for i := range 8 {
		wait.Go(func() {
			for seed := range want {
				m := made.Memory(seed)
				minor.Collect(m, seed%16)
				if !reading.Same(m, want[seed]) {
					t.Error(i, seed)
				}
			}
		})
	}
	wait.Wait()
}
