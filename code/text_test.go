package code

import (
	"reflect"
	"slices"
	"strings"
	"sync"
	"testing"
)

// P52: each line, in order.
func TestText(t *testing.T) {
	c := within("load 0, fill 1, closure 3, take 0, take 4, pop, step, const 2, unless 9, jump 0, const 0, return")
	c.Ints = []int64{0, -1 << 63, 1<<63 - 1}
	c.Strs = []string{"", "a \"b\"\\\n\x00\xffé~"}
	c.Names = []string{"x", "", "len"}
	c.Funcs[2].Name = ""
	want := `func 0 - 0 0 0 0
  0 halt
func 1 f 1 3 2 3
  0 load 0
  1 fill 1
  2 closure 3
  3 take 0
  4 take 4
  5 pop
  6 step
  7 const 2
  8 unless 9
  9 jump 0
  10 const 0
  11 return
func 2 - 0 0 0 0
  0 const 0
  1 return
func 3 h 0 0 0 2
  0 cell 1
  1 return
int 0 0
int 1 -9223372036854775808
int 2 9223372036854775807
str 0 ""
str 1 "a \"b\"\\\n\x00\xff\xc3\xa9~"
name 0 x
name 1 -
name 2 len
`
	if got := Text(c); got != want {
		t.Errorf("%s", got)
	}
	if got := Count(c); got != 17 {
		t.Error(got)
	}
}

// P52: which ops have an A.
func TestTextOfA(t *testing.T) {
	for _, s := range strings.Fields("const int str load store cell fill global name call list dict closure take jump unless next try") {
		if got := Text(Code{Funcs: []Func{{Ops: []Op{{s, 0}, {s, 7}, {s, -7}}}}}); got != "func 0 - 0 0 0 0\n  0 "+s+" 0\n  1 "+s+" 7\n  2 "+s+" -7\n" {
			t.Errorf("%s: %q", s, got)
		}
	}
	for _, s := range strings.Fields("neg not add sub mul div mod eq ne lt le gt ge is in index put del pop dup iter end raise return step halt push") {
		if got := Text(Code{Funcs: []Func{{Ops: []Op{{s, 0}, {s, 7}}}}}); got != "func 0 - 0 0 0 0\n  0 "+s+"\n  1 "+s+"\n" {
			t.Errorf("%s: %q", s, got)
		}
	}
}

// P52, P1: whatever stands there is told, and counted.
func TestTextOfAnything(t *testing.T) {
	c := Code{Funcs: []Func{{Name: "a b", Params: -1, Locals: -2, Cells: 1 << 62, Frees: -1 << 63}, {Ops: []Op{{"", 1}, {"no op", -5}, {"jump", 1<<63 - 1}}}, {}}, Names: []string{"a\nb", " "}}
	if got := Text(c); got != "func 0 a b -1 -2 4611686018427387904 -9223372036854775808\nfunc 1 - 0 0 0 0\n  0 \n  1 no op\n  2 jump 9223372036854775807\nfunc 2 - 0 0 0 0\nname 0 a\nb\nname 1  \n" {
		t.Errorf("%q", got)
	}
	if n := Count(c); n != 3 {
		t.Error(n)
	}
	for _, c := range []Code{{}, {Funcs: []Func{}, Ints: []int64{}, Strs: []string{}, Names: []string{}}} {
		if s, n := Text(c), Count(c); s != "" || n != 0 {
			t.Errorf("%q, %d", s, n)
		}
	}
	big := Code{Funcs: []Func{{Ops: ops("30000*step")}, {}, {Ops: ops("12345*push")}}}
	if n := Count(big); n != 42345 {
		t.Error(n)
	}
	if n := strings.Count(Text(big), "\n"); n != 42348 {
		t.Error(n)
	}
}

func copied(c Code) Code {
	c.Funcs = slices.Clone(c.Funcs)
	for i, f := range c.Funcs {
		c.Funcs[i].Ops = slices.Clone(f.Ops)
	}
	c.Ints, c.Strs, c.Names = slices.Clone(c.Ints), slices.Clone(c.Strs), slices.Clone(c.Names)
	return c
}

// P2, P4: code is only read, by whoever works beside; errors are nobody else's.
func TestOnlyReads(t *testing.T) {
	for _, c := range []Code{within("closure 3, 2*take 1, iter, next 5, return"), within("closure 3, 2*take 1, iter, next 7, pop, jump 4, const 0, return"), {}, program("push")} {
		before := copied(c)
		text, err := Text(c), Verify(c)
		var all sync.WaitGroup
		for range 8 {
			all.Go(func() {
				again := Verify(c)
				if Text(c) != text || Count(c) != Count(before) || !reflect.DeepEqual(again, err) {
					t.Error(text)
				}
			})
		}
		all.Wait()
		if !reflect.DeepEqual(c, before) {
			t.Error(c)
		}
	}
	a, b := Verify(program("push")), Verify(program("push"))
	if a == b {
		t.Error("one fault for two")
	}
}

// P3: what lies behind a list's length is not read.
func TestBehindLists(t *testing.T) {
	c := within("closure 3, 2*take 1, return, push, take 0")
	whole := copied(c)
	f := &c.Funcs[1]
	f.Ops = f.Ops[:4]
	c.Names, c.Ints, c.Strs, c.Funcs = c.Names[:1], c.Ints[:1], c.Strs[:1], c.Funcs[:4]
	expect(t, "all", c, right, -1)
	f.Ops = f.Ops[:3]
	expect(t, "no return", c, wrong, 1)
	f.Ops = f.Ops[:2]
	expect(t, "one take", c, wrong, 1)
	f.Ops = append(f.Ops[:0:0], ops("global 1, return, jump 2")...)[:2]
	expect(t, "a name behind", c, wrong, 1)
	f.Ops = append(f.Ops[:0:0], ops("int 1, return, jump 2")...)[:2]
	expect(t, "an int behind", c, wrong, 1)
	f.Ops = append(f.Ops[:0:0], ops("jump 2, return, jump 2")...)[:2]
	expect(t, "an op behind", c, wrong, 1)
	f.Ops = append(f.Ops[:0:0], ops("closure 2, return")...)
	c.Funcs = c.Funcs[:2]
	expect(t, "a Func behind", c, wrong, 1)
	if got := Text(c); strings.Contains(got, "func 2") || strings.Contains(got, "name 1") || strings.Contains(got, "int 1") || strings.Contains(got, "str 1") {
		t.Error(got)
	}
	if c.Funcs[:4][3].Ops[0] != whole.Funcs[3].Ops[0] || c.Names[:4][3] != "len" {
		t.Error("written behind")
	}
}
