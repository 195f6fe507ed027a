package code

import (
	"fmt"
	"math/rand"
	"slices"
	"strings"
	"sync"
	"testing"

	"nurserypy/api"
	"nurserypy/plain"
)

// A second reading of P50 and P51: ops by words, states by texts, all ways gone one after another.

type way struct {
	a           string // what its A is
	takes, puts int
}

var table = sync.OnceValue(func() map[string]way {
	m := map[string]way{}
	for _, row := range strings.Split(`const 3 0 1|int int 0 1|str str 0 1|load local 0 1|store local 1 0|cell cell 0 1|fill cell 1 0|global name 0 1|name name 1 0|neg - 1 1|not - 1 1|
add - 2 1|sub - 2 1|mul - 2 1|div - 2 1|mod - 2 1|eq - 2 1|ne - 2 1|lt - 2 1|le - 2 1|gt - 2 1|ge - 2 1|is - 2 1|in - 2 1|call many 1 1|index - 2 1|put - 3 0|del - 2 0|
list many 0 1|dict many 0 1|closure func 0 1|take cell 0 0|pop - 1 0|dup - 1 2|jump op 0 0|unless op 1 0|iter - 1 1|next op 1 2|try op 0 0|end - 0 0|raise - 1 0|return - 1 0|step - 0 0|halt - 0 0`, "|") {
		var name string
		var w way
		fmt.Sscan(row, &name, &w.a, &w.takes, &w.puts)
		m[name] = w
	}
	return m
})

// ways: of an op: what its A is, takes, puts.
func ways(op Op) (a string, takes, puts int, known bool) {
	w, known := table()[op.Name]
	switch op.Name {
	case "call", "list":
		w.takes += op.A
	case "dict":
		w.takes += 2 * op.A
	}
	return w.a, w.takes, w.puts, known
}

type reader struct {
	c     Code
	n     int
	ops   []Op
	found map[int]string // of each op that was come to: how
}

func (r *reader) allowed(i int) bool {
	f, op := r.c.Funcs[r.n], r.ops[i]
	a, _, _, known := ways(op)
	most := map[string]int{"3": 2, "int": len(r.c.Ints) - 1, "str": len(r.c.Strs) - 1, "local": f.Locals - 1, "cell": f.Cells + f.Frees - 1, "name": len(r.c.Names) - 1, "func": len(r.c.Funcs) - 1, "op": len(r.ops) - 1, "many": 1000, "-": 0}[a]
	switch {
	case !known, op.A < 0, op.A > most, op.Name == "halt" && r.n > 0, op.Name == "return" && r.n == 0:
		return false
	case a == "op":
		return r.ops[op.A].Name != "take"
	case op.Name == "closure":
		frees := r.c.Funcs[op.A].Frees
		for k := range frees + 1 {
			at := i + 1 + k
			if is := at < len(r.ops) && r.ops[at].Name == "take"; is != (k < frees) {
				return false
			}
		}
	case op.Name == "take":
		for i > 0 && r.ops[i].Name == "take" {
			i--
		}
		return r.ops[i].Name == "closure"
	}
	return true
}

type opened struct{ op, values int }

// ends: whether all goes well from an op on.
func (r *reader) ends(i, values int, tries []opened) bool {
	if i >= len(r.ops) || values > 1000 {
		return false
	}
	how := fmt.Sprint(values, tries)
	if before, ok := r.found[i]; ok {
		return before == how
	}
	r.found[i] = how
	op := r.ops[i]
	_, takes, puts, _ := ways(op)
	floor := 0
	for _, t := range tries {
		floor = max(floor, t.values)
	}
	if values-takes < floor {
		return false
	}
	switch op.Name {
	case "halt", "return", "raise":
		return true
	case "jump":
		return r.ends(op.A, values, tries)
	case "unless":
		return r.ends(op.A, values-1, tries) && r.ends(i+1, values-1, tries)
	case "next":
		return r.ends(i+1, values+1, tries) && r.ends(op.A, values-1, tries)
	case "try":
		return r.ends(op.A, values+1, tries) && r.ends(i+1, values, append(slices.Clone(tries), opened{i, values}))
	case "end":
		return len(tries) > 0 && r.ends(i+1, values, tries[:len(tries)-1])
	}
	return r.ends(i+1, values-takes+puts, tries)
}

// read: the number and place of Verify's error, of code within all bounds whose Funcs have right counts.
func read(c Code) (code, at int) {
	for n, f := range c.Funcs {
		r := &reader{c, n, f.Ops, map[int]string{}}
		for i := range f.Ops {
			if !r.allowed(i) {
				return wrong, n
			}
		}
		if !r.ends(0, 0, nil) {
			return wrong, n
		}
	}
	return right, -1
}

// A maker of code: it makes what is right, and spoils it where it is asked to.
type maker struct {
	*rand.Rand
	ops    []Op
	inFunc int
}

func (m *maker) put(name string, a int) int {
	m.ops = append(m.ops, Op{name, a})
	return len(m.ops) - 1
}

func (m *maker) pick(words string) string {
	l := strings.Fields(words)
	return l[m.Intn(len(l))]
}

// value: one value more.
func (m *maker) value(deep int) {
	if deep <= 0 {
		m.put("const", m.Intn(3))
		return
	}
	switch m.Intn(9) {
	case 0:
		m.put(m.pick("int str global"), 0)
	case 1:
		m.value(deep - 1)
		m.put(m.pick("neg not iter"), 0)
	case 2:
		m.value(deep - 1)
		m.value(deep - 1)
		m.put(m.pick("add eq lt is in index"), 0)
	case 3:
		n := m.Intn(3)
		for range n {
			m.value(deep - 1)
		}
		m.put("list", n)
	case 4:
		m.value(deep - 1)
		m.put("dup", 0)
		m.put(m.pick("pop add"), 0)
	case 5:
		m.value(deep - 1)
		m.value(deep - 1)
		m.put(m.pick("call dict"), 1)
	case 6: // as `and` is
		m.value(deep - 1)
		m.put("dup", 0)
		at := m.put("unless", 0)
		m.put("pop", 0)
		m.value(deep - 1)
		m.ops[at].A = len(m.ops)
		m.put("not", 0)
	case 7:
		if m.inFunc > 0 {
			m.put("closure", 2)
			m.put("take", m.Intn(2))
		} else {
			m.put("closure", 3)
		}
	default:
		m.put("const", m.Intn(3))
	}
}

func (m *maker) block(deep int) {
	for range 1 + m.Intn(3) {
		m.piece(deep)
	}
}

func (m *maker) piece(deep int) {
	if deep <= 0 {
		m.put("step", 0)
		return
	}
	switch m.Intn(8) {
	case 0:
		m.value(3)
		m.put(m.pick("pop name"), 0)
	case 1:
		m.value(2)
		m.value(2)
		if m.Intn(2) == 0 {
			m.value(2)
			m.put("put", 0)
		} else {
			m.put("del", 0)
		}
	case 2:
		m.value(2)
		other := m.put("unless", 0)
		m.block(deep - 1)
		out := m.put("jump", 0)
		m.ops[other].A = len(m.ops)
		m.block(deep - 1)
		m.ops[out].A = len(m.ops)
	case 3:
		top := len(m.ops)
		m.value(2)
		out := m.put("unless", 0)
		m.block(deep - 1)
		m.put("jump", top)
		m.ops[out].A = len(m.ops)
	case 4:
		m.value(2)
		m.put("iter", 0)
		top := m.put("next", 0)
		m.put("pop", 0)
		m.block(deep - 1)
		m.put("jump", top)
		m.ops[top].A = len(m.ops)
	case 5, 6:
		catch := m.put("try", 0)
		m.block(deep - 1)
		m.put("end", 0)
		out := m.put("jump", 0)
		m.ops[catch].A = len(m.ops)
		m.put("pop", 0)
		m.block(deep - 1)
		m.ops[out].A = len(m.ops)
	default:
		m.value(2)
		skip := m.put("unless", 0)
		m.value(2)
		m.put([]string{"raise", m.last()}[m.Intn(2)], 0)
		m.ops[skip].A = len(m.ops)
	}
	m.put("step", 0)
}

func (m *maker) last() string {
	if m.inFunc > 0 {
		return "return"
	}
	return "halt"
}

func (m *maker) made(inFunc int) []Op {
	m.ops, m.inFunc = nil, inFunc
	m.block(3)
	if inFunc > 0 {
		m.put("const", 0)
	}
	m.put(m.last(), 0)
	return m.ops
}

func (m *maker) code() Code {
	return Code{
		Funcs: []Func{{Ops: m.made(0)}, {Name: "f", Params: 1, Locals: 2, Cells: 1, Frees: 1, Ops: m.made(1)}, {Frees: 1, Cells: 1, Ops: m.made(2)}, {Cells: 2, Ops: m.made(3)}},
		Ints:  []int64{1, 2}, Strs: []string{"a"}, Names: []string{"x", "y"},
	}
}

// spoil changes one op.
func (m *maker) spoil(c Code) {
	f := &c.Funcs[m.Intn(len(c.Funcs))]
	i := m.Intn(len(f.Ops))
	names := "const int str load store cell fill global name neg add call index put del list dict closure take pop dup jump unless iter next try end raise return step halt push"
	switch m.Intn(6) {
	case 0:
		f.Ops = slices.Delete(f.Ops, i, i+1)
	case 1:
		f.Ops = slices.Insert(f.Ops, i, Op{m.pick(names), 0})
	case 2:
		f.Ops[i].A = m.Intn(len(f.Ops)+2) - 1
	case 3:
		f.Ops[i].A += m.Intn(5) - 2
	case 4:
		f.Ops[i].Name = m.pick(names)
	case 5:
		k := m.Intn(len(f.Ops))
		f.Ops[i], f.Ops[k] = f.Ops[k], f.Ops[i]
	}
}

// P51: Verify and the second reading say the same; P53: what is taken has, on its ways, what it needs.
func TestSecondReading(t *testing.T) {
	m := &maker{Rand: rand.New(rand.NewSource(5))}
	count := map[int]int{}
	for n := range 6000 {
		c := m.code()
		for range n % 4 {
			m.spoil(c)
		}
		code, at := plain.Code(Verify(c))
		if wantCode, wantAt := read(c); code != wantCode || at != wantAt {
			t.Fatalf("error %d at %d, want %d at %d:\n%s", code, at, wantCode, wantAt, Text(c))
		}
		if n%4 == 0 && code != right {
			t.Fatalf("refused:\n%s", Text(c))
		}
		if code == right {
			m.runs(t, c)
		}
		count[code]++
	}
	if count[right] < 1700 || count[wrong] < 2000 {
		t.Error(count)
	}
}

// All ops one behind another, as long as it goes: short code, much of it wrong.
func TestShortCode(t *testing.T) {
	m := &maker{Rand: rand.New(rand.NewSource(6))}
	some := ops("const 0, pop, dup, unless 0, unless 2, jump 1, jump 3, try 3, try 2, try 1, end, next 3, next 0, raise, halt")
	taken := 0
	var longer func(l []Op, more int)
	longer = func(l []Op, more int) {
		c := Code{Funcs: []Func{{Ops: slices.Clone(l)}}}
		code, at := plain.Code(Verify(c))
		if wantCode, wantAt := read(c); code != wantCode || at != wantAt {
			t.Fatalf("error %d at %d, want %d at %d:\n%s", code, at, wantCode, wantAt, Text(c))
		}
		if code == right {
			taken++
			m.runs(t, c)
		}
		if more > 0 {
			for _, op := range some {
				longer(append(l, op), more-1)
			}
		}
	}
	longer(nil, 4)
	if taken < 1000 {
		t.Error(taken)
	}
}

type catcher struct{ at, values int }

// runs goes some ways through code, each Func by itself, with values that are numbers, and may raise at every op: what an op takes must be there, and what was there at a try must still be there when it catches.
func (m *maker) runs(t *testing.T, c Code) {
	t.Helper()
	for n := range c.Funcs {
		for range 3 {
			if why := m.goes(c.Funcs[n].Ops); why != "" {
				t.Fatalf("%s, in Func %d:\n%s", why, n, Text(c))
			}
		}
	}
}

func (m *maker) goes(l []Op) (why string) {
	var stack []int
	var kept [][]int // the stack at each try that is open
	var tries []catcher
	at := 0
	for made := range 300 {
		if at < 0 || at >= len(l) {
			return "beside the ops"
		}
		op := l[at]
		_, takes, puts, _ := ways(op)
		if len(stack) < takes {
			return fmt.Sprint("op ", at, " lacks a value")
		}
		if op.Name == "raise" || m.Intn(12) == 0 {
			if len(tries) == 0 {
				return ""
			}
			last := len(tries) - 1
			if len(stack) < tries[last].values || !slices.Equal(stack[:tries[last].values], kept[last]) {
				return fmt.Sprint("op ", at, " raises, and the stack is not as it was")
			}
			stack = append(stack[:tries[last].values], made)
			at, tries, kept = tries[last].at, tries[:last], kept[:last]
			continue
		}
		stack = stack[:len(stack)-takes]
		jumps := m.Intn(2) == 0
		switch op.Name {
		case "halt", "return":
			return ""
		case "jump":
			at = op.A
			continue
		case "unless", "next":
			if jumps {
				at = op.A
				continue
			}
		case "try":
			tries, kept = append(tries, catcher{op.A, len(stack)}), append(kept, slices.Clone(stack))
		case "end":
			if len(tries) == 0 {
				return "no try is open"
			}
			tries, kept = tries[:len(tries)-1], kept[:len(kept)-1]
		}
		for range puts {
			stack = append(stack, made)
		}
		at++
		if len(stack) > 1000 {
			return "too many values"
		}
	}
	return ""
}

// P1: whatever it is, it is told, and ends: long loops, tries in each other, and code that is wide.
func TestLongCode(t *testing.T) {
	tries := ops("9999*try 0, jump 0")
	for i := range tries {
		tries[i].A = 10000
	}
	deep := append(tries[:9999:9999], ops("halt, raise")...)
	expect(t, "tries in each other, caught at one place", Code{Funcs: []Func{{Ops: deep}}}, wrong, 0)
	apart := ops("6000*try 0, 6000*end, halt, 6000*raise")
	for i := range 6000 {
		apart[i].A = 12001 + i
	}
	expect(t, "tries in each other", Code{Funcs: []Func{{Ops: apart}}}, right, -1)
	apart[12000] = Op{Name: "end"}
	expect(t, "one end too many", Code{Funcs: []Func{{Ops: apart}}}, wrong, 0)
	jumps := ops("20000*jump 0")
	for i := range jumps {
		jumps[i].A = (i + 7919) % len(jumps)
	}
	expect(t, "jumps", Code{Funcs: []Func{{Ops: jumps}}}, right, -1)
	if len(jumps) != api.MaxCode {
		t.Error(len(jumps))
	}
}
