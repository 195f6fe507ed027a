package code

import (
	"strconv"
	"strings"
	"testing"

	"nurserypy/api"
	"nurserypy/plain"
)

// ops: written as `const 0, pop, halt`; `5*pop` is five of them.
func ops(text string) []Op {
	var l []Op
	for _, s := range strings.Split(text, ",") {
		times := 1
		if n, rest, ok := strings.Cut(s, "*"); ok {
			times, _ = strconv.Atoi(strings.TrimSpace(n))
			s = rest
		}
		words := strings.Fields(s)
		if len(words) == 0 {
			continue
		}
		op := Op{Name: words[0]}
		if len(words) > 1 {
			op.A, _ = strconv.Atoi(words[1])
		}
		for range times {
			l = append(l, op)
		}
	}
	return l
}

func program(text string) Code { return Code{Funcs: []Func{{Ops: ops(text)}}} }

// within: a program, and a Func 1 with some of all, whose ops these are; Func 2 has no frees, Func 3 has two.
func within(text string) Code {
	return Code{
		Funcs: []Func{
			{Ops: ops("halt")},
			{Name: "f", Params: 1, Locals: 3, Cells: 2, Frees: 3, Ops: ops(text)},
			{Name: "g", Ops: ops("const 0, return")},
			{Name: "h", Frees: 2, Ops: ops("cell 1, return")},
		},
		Ints:  []int64{1, 2},
		Strs:  []string{"a", "b", "c"},
		Names: []string{"x", "y", "z", "len"},
	}
}

// expect: the error's number and its place, as package plain tells them.
func expect(t *testing.T, what string, c Code, code, at int) {
	t.Helper()
	err := Verify(c)
	if gotCode, gotAt := plain.Code(err); gotCode != code || gotAt != at {
		t.Errorf("%s: error %d at %d, want %d at %d", what, gotCode, gotAt, code, at)
	}
	// A place is told by a fault itself, not by one that is wrapped; an error without a place is bare.
	if _, ok := err.(*api.Fault); ok != (at >= 0) {
		t.Errorf("%s: %T", what, err)
	}
}

// What package plain tells of no error, of api.ErrBound and of api.ErrShape.
const (
	right   = 0
	tooMuch = 2
	wrong   = 3
)

func takes(t *testing.T, texts ...string) {
	t.Helper()
	for _, s := range texts {
		expect(t, s, program(s), right, -1)
	}
}

func refuses(t *testing.T, texts ...string) {
	t.Helper()
	for _, s := range texts {
		expect(t, s, program(s), wrong, 0)
	}
}

func takesWithin(t *testing.T, texts ...string) {
	t.Helper()
	for _, s := range texts {
		expect(t, s, within(s), right, -1)
	}
}

func refusesWithin(t *testing.T, texts ...string) {
	t.Helper()
	for _, s := range texts {
		expect(t, s, within(s), wrong, 1)
	}
}

// P51: how much there may be, in all.
func TestBounds(t *testing.T) {
	long := func(n int) []Op { return append(ops(strconv.Itoa(n-1)+"*step"), Op{Name: "halt"}) }
	expect(t, "20000 ops", Code{Funcs: []Func{{Ops: long(20000)}}}, right, -1)
	expect(t, "20001 ops", Code{Funcs: []Func{{Ops: long(20001)}}}, tooMuch, -1)
	inner := func(n int) Func { return Func{Ops: append(ops(strconv.Itoa(n-2)+"*step"), ops("const 0, return")...)} }
	expect(t, "20000 ops in two", Code{Funcs: []Func{{Ops: long(10000)}, inner(10000)}}, right, -1)
	expect(t, "20001 ops in two", Code{Funcs: []Func{{Ops: long(10000)}, inner(10001)}}, tooMuch, -1)
	funcs := func(n int) Code {
		c := program("halt")
		for range n - 1 {
			c.Funcs = append(c.Funcs, inner(2))
		}
		return c
	}
	expect(t, "400 Funcs", funcs(400), right, -1)
	expect(t, "401 Funcs", funcs(401), tooMuch, -1)
	for n, code := range map[int]int{2000: right, 2001: tooMuch} {
		c := program("halt")
		c.Ints = make([]int64, n)
		expect(t, "ints", c, code, -1)
		c = program("halt")
		c.Strs = make([]string, n)
		expect(t, "strs", c, code, -1)
		c = program("halt")
		c.Names = make([]string, n)
		expect(t, "names", c, code, -1)
	}
	c := program("int 1999, str 1999, global 1999, 3*pop, halt")
	c.Ints, c.Strs, c.Names = make([]int64, 2000), make([]string, 2000), make([]string, 2000)
	expect(t, "2000 of all", c, right, -1)
}

// P51: a program, and how much a Func has.
func TestCounts(t *testing.T) {
	expect(t, "nothing", Code{}, wrong, -1)
	expect(t, "no Func", Code{Funcs: []Func{}, Ints: []int64{1}}, wrong, -1)
	for _, f := range []Func{{Locals: 1}, {Params: 1, Locals: 1}, {Cells: 1}, {Frees: 1}, {Params: -1}, {Locals: -1}, {Cells: -1}, {Frees: -1}} {
		f.Ops = ops("halt")
		expect(t, "the program", Code{Funcs: []Func{f}}, wrong, -1)
	}
	named := program("halt")
	named.Funcs[0].Name = "a name"
	expect(t, "a program with a name", named, right, -1)
	for i, c := range []struct {
		f    Func
		code int
	}{
		{Func{Params: 400, Locals: 400, Cells: 400, Frees: 400}, right}, {Func{Params: 2, Locals: 2}, right}, {Func{Locals: 2}, right},
		{Func{Params: 401, Locals: 401}, wrong}, {Func{Locals: 401}, wrong}, {Func{Cells: 401}, wrong}, {Func{Frees: 401}, wrong},
		{Func{Params: -1}, wrong}, {Func{Params: -1, Locals: -1}, wrong}, {Func{Locals: -1}, wrong}, {Func{Cells: -1}, wrong}, {Func{Frees: -1}, wrong},
		{Func{Params: 1}, wrong}, {Func{Params: 3, Locals: 2}, wrong}, {Func{Params: 1 << 62, Locals: 1 << 62}, wrong}, {Func{Cells: -1 << 63}, wrong},
	} {
		c.f.Ops = ops("const 0, return")
		expect(t, "Func 1, "+strconv.Itoa(i), Code{Funcs: []Func{{Ops: ops("halt")}, c.f}}, c.code, -1)
		expect(t, "Func 2, "+strconv.Itoa(i), Code{Funcs: []Func{{Ops: ops("halt")}, {Ops: ops("const 0, return")}, c.f}}, c.code, -1)
	}
}

// P51, P3: what is named first is told first; of several Funcs, the first one.
func TestOrder(t *testing.T) {
	c := Code{Ints: make([]int64, 2001)}
	expect(t, "bound, no Func", c, tooMuch, -1)
	c.Funcs = []Func{{Params: 1, Ops: ops("push")}}
	expect(t, "bound, counts, ops", c, tooMuch, -1)
	c.Ints = nil
	expect(t, "counts, ops", c, wrong, -1)
	c = within("push")
	c.Funcs[3].Params = 1
	expect(t, "ops of 1, counts of 3", c, wrong, -1)
	c.Funcs[3].Params = 0
	c.Funcs[3].Ops = ops("push")
	expect(t, "ops of 1, ops of 3", c, wrong, 1)
	c = within("pop")
	c.Funcs[2].Ops = ops("push")
	expect(t, "what 1 takes, ops of 2", c, wrong, 1)
	c.Funcs[1].Ops = ops("const 0, return")
	expect(t, "ops of 2", c, wrong, 2)
	c.Funcs[2].Ops = ops("const 0, return")
	c.Funcs[3].Ops = nil
	expect(t, "nothing in 3", c, wrong, 3)
}

// P51: what is none, or has an A and may have none; also where it is never come to.
func TestNamesOfOps(t *testing.T) {
	refuses(t, "push, halt", "Halt", "halt, push", "jump 2, nop, halt", "const 0, and, halt", "or, halt", "const 0 , Pop, halt")
	takes(t, "halt", "step, halt", "jump 2, step, halt", "halt, halt", "halt, pop, add, end, halt")
	expect(t, "an empty name", Code{Funcs: []Func{{Ops: []Op{{}, {Name: "halt"}}}}}, wrong, 0)
	for _, s := range strings.Fields("neg not add sub mul div mod eq ne lt le gt ge is in index put del pop dup iter end raise step halt") {
		takes(t, "halt, "+s+", halt")
		for _, a := range []string{" 1", " -1", " 9223372036854775807", " -9223372036854775808"} {
			refuses(t, "halt, "+s+a+", halt", "4*const 0, try 1, "+s+a+", halt")
		}
	}
	refusesWithin(t, "const 0, return 1", "const 0, return, return -1")
}

// P51: each A is a number of what its name asks for.
func TestNumbers(t *testing.T) {
	for s, most := range map[string]int{
		"const": 2, "int": 1, "str": 2, "load": 2, "cell": 4, "global": 3, "list": 1000, "dict": 1000, "call": 1000,
		"store": 2, "fill": 4, "name": 3, "jump": 3, "unless": 3, "next": 3, "try": 3,
	} {
		for a := range most + 1 {
			takesWithin(t, "const 0, return, "+s+" "+strconv.Itoa(a)+", raise")
		}
		for _, a := range []int{-1, most + 1, most + 5, -1 << 63, 1<<63 - 1, -1001, 1 << 32} {
			refusesWithin(t, "const 0, return, "+s+" "+strconv.Itoa(a)+", raise")
		}
	}
	takesWithin(t, "closure 2, return", "closure 3, take 0, take 4, return", "closure 0, return", "closure 1, take 0, take 1, take 2, return")
	refusesWithin(t, "closure 3, take 0, take 5, return", "closure 3, take -1, take 0, return", "closure 4, return", "closure -1, return", "const 0, return, closure 4, raise", "const 0, return, closure 3, take 0, take 5, raise")
	refuses(t, "int 0, halt", "str 0, halt", "global 0, halt", "const 0, name 0, halt", "load 0, halt", "const 0, store 0, halt", "cell 0, halt", "const 0, fill 0, halt", "closure 1, halt")
	takes(t, "closure 0, halt")
	inner := within("const 0, return")
	inner.Funcs[2].Ops = ops("load 0, return")
	expect(t, "another one's local", inner, wrong, 2)
	inner.Funcs[2].Ops = ops("jump 2, return")
	expect(t, "another one's op", inner, wrong, 2)
}

// P51: a closure and its frees.
func TestTakes(t *testing.T) {
	takesWithin(t, "closure 3, take 0, take 1, return", "closure 3, take 2, take 2, closure 2, pop, closure 3, take 4, take 4, pop, return", "closure 3, take 1, take 2, pop, jump 0", "const 0, return, closure 3, 2*take 0")
	refusesWithin(t,
		"closure 3, return", "closure 3, take 0, return", "closure 3, take 0, pop, take 0, return", "closure 3, 3*take 0, return", "closure 2, take 0, return",
		"take 0, const 0, return", "const 0, take 0, return", "const 0, return, take 0", "closure 3, take 0", "closure 3", "const 0, return, closure 3, take 0",
		"closure 3, closure 2, 2*take 0, return", "const 0, return, closure 3, step, 2*take 0",
		"closure 3, take 0, take 1, pop, jump 1", "closure 3, take 0, take 1, pop, jump 2", "closure 3, 2*take 0, pop, const 0, unless 2, const 0, return",
		"closure 3, 2*take 0, iter, next 2, return", "closure 3, 2*take 0, try 2, return", "const 0, return, closure 3, 2*take 0, jump 4",
	)
	takesWithin(t, "closure 3, 2*take 0, pop, jump 0", "closure 3, 2*take 0, jump 4, pop, jump 0")
}

// P51: who ends how.
func TestEnds(t *testing.T) {
	takes(t, "halt", "jump 0", "const 0, raise", "step, jump 0", "const 2, unless 3, halt, step, halt", "5*const 0, halt", "try 2, halt, halt", "3*const 0, try 8, 2*const 0, try 9, halt, raise, raise", "const 0, unless 2, jump 2")
	refuses(t, "", "step", "const 0", "const 0, return", "halt, return", "halt, const 0, return", "const 2, unless 3, halt, step", "try 1", "const 0, const 0, raise, raise, return")
	takesWithin(t, "const 0, return", "const 0, raise", "jump 0", "5*const 0, return", "const 0, try 4, const 1, return, return", "const 0, return, step")
	refusesWithin(t, "", "step", "halt", "const 0", "return", "const 0, return, halt", "const 0, halt", "try 1, return")
	c := within("const 0, return")
	c.Funcs[0].Ops = nil
	expect(t, "no ops", c, wrong, 0)
}
