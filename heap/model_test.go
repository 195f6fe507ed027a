package heap_test

import (
	"errors"
	"fmt"
	"math/rand"
	"slices"
	"strconv"
	"strings"
	"testing"

	"nurserypy/api"
	"nurserypy/checks/reading"
	"nurserypy/heap"
)

// A thing: an object, that lies nowhere. Of kind 1 told is its digits, of kind 2 its repr.
type thing struct {
	kind, words int
	fields      []any
	told        string
}

// A model: what a heap holds, by P111 to P114: values are a text (what is told of them) or a *thing.
type model struct {
	roots   []any
	weak    []*thing
	gone    []bool
	serials []*thing
}

// reached: all that the roots lead to, in P83's order, and their numbers.
func (m *model) reached() ([]*thing, map[*thing]int) {
	var order []*thing
	numbers := map[*thing]int{}
	come := func(l []any) {
		for _, v := range l {
			x, ok := v.(*thing)
			if _, known := numbers[x]; ok && !known {
				numbers[x] = len(order)
				order = append(order, x)
			}
		}
	}
	come(m.roots)
	for i := 0; i < len(order); i++ {
		come(order[i].fields)
	}
	return order, numbers
}

func (m *model) show() string {
	order, numbers := m.reached()
	tell := func(v any) string {
		if x, ok := v.(*thing); ok {
			return "@" + strconv.Itoa(numbers[x])
		}
		return v.(string)
	}
	var out strings.Builder
	for _, v := range m.roots {
		fmt.Fprintln(&out, "root", tell(v))
	}
	for n, x := range order {
		line := []string{strconv.Itoa(n), strconv.Itoa(x.kind)}
		if x.kind < 8 {
			line = append(line, x.told)
		}
		for _, v := range x.fields {
			line = append(line, tell(v))
		}
		fmt.Fprintln(&out, strings.Join(line, " "))
	}
	return out.String()
}

func (m *model) live() int {
	n := 0
	order, _ := m.reached()
	for _, x := range order {
		n += x.words
	}
	return n
}

// loses: what nothing leads to is gone, at once behind Major.
func (m *model) loses() {
	_, numbers := m.reached()
	for i, x := range m.weak {
		if _, leads := numbers[x]; !leads {
			m.gone[i] = true
		}
	}
}

// A pair: a heap, and the model that it is held against.
type pair struct {
	*heap.Heap
	model
	heap.Config
	r    *rand.Rand
	told map[string]int
}

func begin(c heap.Config, roots int, seed int64) *pair {
	h, err := heap.New(c, roots)
	if err != nil {
		panic(err)
	}
	p := &pair{Heap: h, Config: c, r: rand.New(rand.NewSource(seed)), told: map[string]int{}}
	for range roots {
		p.roots = append(p.roots, "none")
	}
	return p
}

// root: a number of one, or, seldom, of none.
func (p *pair) root() int { return p.near(len(p.roots)) }

func (p *pair) near(n int) int {
	if n == 0 || p.r.Intn(30) == 0 {
		return []int{-1, n}[p.r.Intn(2)]
	}
	return p.r.Intn(n)
}

func (p *pair) there(roots ...int) bool {
	for _, r := range roots {
		if r < 0 || r >= len(p.roots) {
			return false
		}
	}
	return true
}

// act does one thing to both; what is not as it must be is told as an error.
func (p *pair) act() error {
	acts := []func() error{
		p.makeOne, p.makeOne, p.makeOne, p.makeOne, p.text, p.text, p.number, p.constant, p.copyRoot, p.copyRoot,
		p.put, p.put, p.put, p.put, p.get, p.get, p.serial, p.weaken, p.weaken, p.look, p.look, p.collect,
		p.move, p.find, p.resize, p.aim,
	}
	if err := acts[p.r.Intn(len(acts))](); err != nil {
		return err
	}
	if got, want := p.Show(), p.show(); got != want {
		return fmt.Errorf("%s\nwant\n%s", got, want)
	}
	m := p.Snapshot()
	if live, err := m.Live(); err != nil || reading.Right(m) != nil || live != p.live() {
		return fmt.Errorf("%d live words, want %d; %v, %v", live, p.live(), err, reading.Right(m))
	}
	if nursery, old := p.Words(); nursery != m.Top || old != m.OldTop {
		return fmt.Errorf("%d and %d words", nursery, old)
	}
	return nil
}

// tells: an error is the one that must be.
func (p *pair) tells(what string, got, want error) error {
	p.told[fmt.Sprint(what, " ", want)]++
	if got != want {
		return fmt.Errorf("%s: %v, want %v", what, got, want)
	}
	return nil
}

// lays: a root becomes a new object, if there was room; there may be none only where P110 says so.
func (p *pair) lays(what string, r int, x *thing, err error) error {
	if err == api.ErrFull && p.live()+x.words > p.Old {
		return p.tells(what, err, api.ErrFull)
	}
	if err == nil {
		p.roots[r] = x
	}
	return p.tells(what, err, nil)
}

func (p *pair) makeOne() error {
	r, kind, size := p.root(), 8+p.r.Intn(248), p.r.Intn(4+p.r.Intn(3)*6)
	if p.r.Intn(20) == 0 {
		kind, size = []int{7, -1, 256, 8}[p.r.Intn(4)], []int{-1, api.MaxFields + 1}[p.r.Intn(2)]
	}
	err := p.Make(r, kind, size)
	switch {
	case !p.there(r):
		return p.tells("make", err, api.ErrPlace)
	case kind < 8 || kind > 255 || size < 0 || size > api.MaxFields:
		return p.tells("make", err, api.ErrBound)
	}
	x := &thing{kind: kind, words: 1 + size}
	for range size {
		x.fields = append(x.fields, "none")
	}
	return p.lays("make", r, x, err)
}

func (p *pair) text() error {
	r, s := p.root(), strings.Repeat("x\n\"\\\xff", 13)[p.r.Intn(5):][:p.r.Intn(2+p.r.Intn(3)*20)]
	if p.r.Intn(20) == 0 {
		s = strings.Repeat("x", api.MaxLength+p.r.Intn(2))
	}
	err := p.Text(r, s)
	switch {
	case !p.there(r):
		return p.tells("text", err, api.ErrPlace)
	case len(s) > api.MaxLength:
		return p.tells("text", err, api.ErrBound)
	}
	return p.lays("text", r, &thing{kind: 2, words: 2 + (len(s)+7)/8, told: repr(s)}, err)
}

func (p *pair) number() error {
	r, n := p.root(), int64(p.r.Uint64())>>p.r.Intn(4)
	err := p.Int(r, n)
	digits := strconv.FormatInt(n, 10)
	switch {
	case !p.there(r):
		return p.tells("int", err, api.ErrPlace)
	case n < -1<<61 || n > 1<<61-1:
		return p.lays("box", r, &thing{kind: 1, words: 2, told: digits}, err)
	}
	p.roots[r] = digits
	return p.tells("int", err, nil)
}

func (p *pair) constant() error {
	r, n := p.root(), p.near(3)
	err := p.Const(r, n)
	switch {
	case !p.there(r):
		return p.tells("const", err, api.ErrPlace)
	case n < 0 || n > 2:
		return p.tells("const", err, api.ErrBound)
	}
	p.roots[r] = []string{"none", "false", "true"}[n]
	return p.tells("const", err, nil)
}

func (p *pair) copyRoot() error {
	r, from := p.root(), p.root()
	err := p.Copy(r, from)
	if !p.there(r, from) {
		return p.tells("copy", err, api.ErrPlace)
	}
	p.roots[r] = p.roots[from]
	return p.tells("copy", err, nil)
}

// place: the field of what a root holds, or what must be told of it.
func (p *pair) place(r, field, other int) (*any, error) {
	if !p.there(r, other) {
		return nil, api.ErrPlace
	}
	x, ok := p.roots[r].(*thing)
	switch {
	case !ok || x.kind < 8:
		return nil, api.ErrShape
	case field < 0 || field >= len(x.fields):
		return nil, api.ErrBound
	}
	return &x.fields[field], nil
}

func (p *pair) get() error {
	r, field, to := p.root(), p.near(3), p.root()
	err := p.Get(r, field, to)
	at, want := p.place(r, field, to)
	if want == nil {
		p.roots[to] = *at
	}
	return p.tells("get", err, want)
}

func (p *pair) put() error {
	r, field, from := p.root(), p.near(3), p.root()
	err := p.Put(r, field, from)
	at, want := p.place(r, field, from)
	if want == nil {
		*at = p.roots[from]
	}
	return p.tells("put", err, want)
}

// row: so many fields of what a root holds, or what must be told of it.
func (p *pair) row(r, from, count int) ([]any, error) {
	x, ok := p.roots[r].(*thing)
	switch {
	case !ok || x.kind < 8:
		return nil, api.ErrShape
	case from < 0 || count < 0 || from+count > len(x.fields):
		return nil, api.ErrBound
	}
	return x.fields[from:][:count], nil
}

func (p *pair) move() error {
	r, field, other, from, count := p.root(), p.near(3), p.root(), p.near(3), p.near(3)
	err := p.Move(r, field, other, from, count)
	if !p.there(r, other) {
		return p.tells("move", err, api.ErrPlace)
	}
	to, want := p.row(r, field, count)
	l, bad := p.row(other, from, count)
	if want == nil {
		want = bad
	}
	if want == nil {
		copy(to, slices.Clone(l))
	}
	return p.tells("move", err, want)
}

func (p *pair) find() error {
	r, from, count, like := p.root(), p.near(3), p.near(4), p.root()
	n, err := p.Find(r, from, count, like)
	if !p.there(r, like) {
		return errors.Join(p.tells("find", err, api.ErrPlace), p.counts("find", n, 0))
	}
	l, want := p.row(r, from, count)
	if want != nil {
		return errors.Join(p.tells("find", err, want), p.counts("find", n, 0))
	}
	at := slices.IndexFunc(l, func(v any) bool { return alike(v, p.roots[like]) })
	if at >= 0 {
		at += from
	}
	is, bad := p.Alike(r, like)
	if bad != nil || is != alike(p.roots[r], p.roots[like]) {
		return fmt.Errorf("alike: %v, %v", is, bad)
	}
	return errors.Join(p.tells("find", err, nil), p.counts("find", n, at))
}

// alike: the same, or raw ones of which the same is told.
func alike(v, w any) bool {
	x, ok := v.(*thing)
	y, too := w.(*thing)
	return v == w || ok && too && x.kind < 8 && x.kind == y.kind && x.told == y.told
}

func (p *pair) resize() error {
	n := max(0, len(p.roots)+p.r.Intn(3)-1)
	if n > 12 {
		return nil
	}
	err := p.Resize(n)
	for len(p.roots) < n {
		p.roots = append(p.roots, "nowhere")
	}
	p.roots = p.roots[:n]
	return p.tells("resize", err, nil)
}

// object: what a root holds, or what must be told of it.
func (p *pair) object(r int) (*thing, error) {
	if !p.there(r) {
		return nil, api.ErrPlace
	}
	if x, ok := p.roots[r].(*thing); ok {
		return x, nil
	}
	return nil, api.ErrShape
}

func (p *pair) serial() error {
	r := p.root()
	n, err := p.Serial(r)
	x, want := p.object(r)
	if want != nil {
		return errors.Join(p.tells("serial", err, want), p.counts("serial", n, 0))
	}
	for i, known := range p.serials {
		if known == x {
			return errors.Join(p.tells("serial", err, nil), p.counts("serial", n, i+1))
		}
	}
	p.serials = append(p.serials, x)
	return errors.Join(p.tells("serial", err, nil), p.counts("serial", n, len(p.serials)))
}

func (p *pair) counts(what string, got, want int) error {
	if got != want {
		return fmt.Errorf("%s: %d, want %d", what, got, want)
	}
	return nil
}

func (p *pair) weaken() error {
	r := p.root()
	n, err := p.Weak(r)
	x, want := p.object(r)
	if want != nil {
		return errors.Join(p.tells("weak", err, want), p.counts("weak", n, 0))
	}
	p.weak, p.gone = append(p.weak, x), append(p.gone, false)
	return errors.Join(p.tells("weak", err, nil), p.counts("weak", n, len(p.weak)-1))
}

func (p *pair) look() error {
	n, to := p.near(len(p.weak)), p.root()
	is, err := p.Look(n, to)
	if n < 0 || n >= len(p.weak) || !p.there(to) {
		if is {
			return errors.New("true, with an error")
		}
		return p.tells("look", err, api.ErrPlace)
	}
	if !is {
		if _, numbers := p.reached(); hasKey(numbers, p.weak[n]) {
			return errors.New("gone, but something leads to it")
		}
		p.gone[n], p.roots[to] = true, "none"
		return p.tells("look, gone", err, nil)
	}
	if p.gone[n] {
		return errors.New("there again")
	}
	p.roots[to] = p.weak[n]
	return p.tells("look", err, nil)
}

func (p *pair) aim() error {
	n, r := p.near(len(p.weak)), p.root()
	err := p.Aim(n, r)
	if n < 0 || n >= len(p.weak) {
		return p.tells("aim", err, api.ErrPlace)
	}
	x, want := p.object(r)
	if want == nil {
		p.weak[n], p.gone[n] = x, false
	}
	return p.tells("aim", err, want)
}

func hasKey(l map[*thing]int, x *thing) bool {
	_, ok := l[x]
	return ok
}

func (p *pair) collect() error {
	if p.r.Intn(4) > 0 {
		if err := p.Minor(); err != api.ErrFull || p.live() <= p.Old {
			return p.tells("minor", err, nil)
		}
		return p.tells("minor", api.ErrFull, api.ErrFull)
	}
	err := p.Major()
	if p.live() > p.Old {
		return p.tells("major", err, api.ErrFull)
	}
	p.loses()
	if nursery, old := p.Words(); nursery != 0 || old != p.live() {
		return fmt.Errorf("behind Major %d and %d words, %d live", nursery, old, p.live())
	}
	return p.tells("major", err, nil)
}

// P115: whatever is done, in whatever Config, a heap tells what the model tells.
func TestLives(t *testing.T) {
	told := map[string]int{}
	r := rand.New(rand.NewSource(3))
	for life := range 400 {
		c := heap.Config{Half: 1 + r.Intn(40), Old: 1 + r.Intn(150), Card: 1 + r.Intn(12), Tenure: r.Intn(4) * r.Intn(6)}
		if life%8 == 0 {
			c = heap.Config{Half: 300 + r.Intn(200), Old: 4000, Card: 64, Tenure: 1}
		}
		p := begin(c, r.Intn(12), int64(life))
		for step := range 400 {
			if err := p.act(); err != nil {
				t.Fatal(c, life, step, err)
			}
		}
		for what, n := range p.told {
			told[what] += n
		}
	}
	for _, what := range strings.Split("make text box int const copy get put serial weak look minor major move find resize aim", " ") {
		if told[what+" <nil>"] < 200 {
			t.Error(what, told[what+" <nil>"])
		}
	}
	for _, what := range []string{"make", "text", "box", "minor", "major"} {
		if told[what+" nurserypy: full"] < 10 {
			t.Error(what, "full", told[what+" nurserypy: full"])
		}
	}
	if told["look, gone <nil>"] < 200 {
		t.Error(told)
	}
}

// P115: the same acts in heaps of any Config show the same, if there is room, however often
// they are collected between: the first one is so by nobody.
func TestAnyConfig(t *testing.T) {
	for seed := range int64(12) {
		want := ""
		for i, c := range []heap.Config{
			{api.MaxWords, api.MaxWords, 1024, 15}, {1, 9000, 1, 0}, {2, 9000, 3, 1}, {7, 9000, 10, 2}, {20, 9000, 4, 15}, {400, 9000, 100, 0},
		} {
			p, forced := begin(c, 10, seed), rand.New(rand.NewSource(seed))
			out := ""
			for range 250 {
				if err := p.makes(); err != nil {
					t.Fatal(c, seed, err)
				}
				switch n := forced.Intn(20); {
				case i > 0 && n == 0:
					ok(t, p.Minor())
				case i > 0 && n == 1:
					ok(t, p.Major())
				}
				out += p.Show()
			}
			if want == "" {
				want = out
			}
			if out != want {
				t.Error(c, seed, "shows something else")
			}
		}
	}
}

// makes does one thing of those in which no weak reference is looked at: what comes of that may hang on collections.
func (p *pair) makes() error {
	acts := []func() error{p.makeOne, p.makeOne, p.makeOne, p.text, p.number, p.constant, p.copyRoot, p.put, p.put, p.put, p.get, p.serial, p.weaken}
	return acts[p.r.Intn(len(acts))]()
}
