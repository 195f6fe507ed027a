package vm_test

import (
	"fmt"
	"math/rand"
	"strings"
	"testing"

	"nurserypy/code"
)

// edges: ints on both sides of what a word can hold; some that are the same but for their lowest bits, and what is left of
// these without them; and values that are no ints.
func edges() []string {
	return []string{
		"2305843009213693951", "2305843009213693952", "2305843009213693953", "2305843009213693954", "2305843009213693955",
		"-2305843009213693952", "-2305843009213693953", "-2305843009213693954", "-2305843009213693957", "576460752303423488",
		"-576460752303423489", "4611686018427387904", "9223372036854775807", "-9223372036854775807 - 1", "0", "5", "-1",
		"None", "True", "\"a\"",
	}
}

// A writer writes a program that changes a list and a dict.
type writer struct {
	strings.Builder
	*rand.Rand
	length int // of the list
}

func (w *writer) value() string {
	all := edges()
	return all[w.Intn(len(all))]
}

// change writes one thing that is done to the list.
func (w *writer) change() {
	if w.length == 0 {
		fmt.Fprintf(w, "push(l, %s)\n", w.value())
		w.length++
		return
	}
	at := w.Intn(w.length)
	switch w.Intn(8) {
	case 0, 1:
		fmt.Fprintf(w, "push(l, %s)\n", w.value())
		w.length++
	case 2, 3:
		fmt.Fprintf(w, "del l[%d]\n", at)
		w.length--
	case 4:
		fmt.Fprintf(w, "l[%d] = %s\n", at, w.value())
	case 5:
		fmt.Fprint(w, "print(pop(l))\n")
		w.length--
	case 6:
		if w.length < 40 {
			fmt.Fprint(w, "l = l + l\n")
			w.length *= 2
		}
	case 7:
		fmt.Fprintf(w, "l = [%s, %s] + l\n", w.value(), w.value())
		w.length += 2
	}
}

// changeKey writes one thing that is done to the dict.
func (w *writer) changeKey() {
	switch w.Intn(4) {
	case 0, 1:
		fmt.Fprintf(w, "d[%s] = %s\n", w.value(), w.value())
	case 2:
		fmt.Fprintf(w, "try:\n del d[%s]\nexcept e:\n print(e)\n", w.value())
	case 3:
		fmt.Fprintf(w, "for k in d:\n if k in d:\n  del d[k]\n d[%s] = k\nprint(keys(d))\n", w.value())
	}
}

func (w *writer) program() string {
	fmt.Fprint(w, "l = []\nd = {}\n")
	for w.Len() < 4000 {
		w.change()
		w.changeKey()
	}
	fmt.Fprintf(w, "print(%s in l, %s in d, l == l + [], keys(d) == keys(d) + l)\nfor x in l:\n print(x)\nfor k in d:\n print(k, d[k])\n", w.value(), w.value())
	return w.String()
}

// P122: ints of all sizes, beside other values, in lists and dicts of many lengths, wherever they are put and taken out.
func TestPacked(t *testing.T) {
	r := rand.New(rand.NewSource(4))
	longest := 0
	for seed := range int64(150) {
		w := &writer{Rand: rand.New(rand.NewSource(seed))}
		l := read(t, w.program())
		longest = max(longest, w.length)
		if kind := plays(t, l, 5000, roomy(256)); kind != "done" {
			t.Error(seed, kind)
		}
		plays(t, l, 5000, random(r))
	}
	if longest < 60 {
		t.Error(longest)
	}
}

// P122: a dict of any length, all of whose keys are great, gone through while they give way to others.
func TestPackedKeys(t *testing.T) {
	for _, n := range []int{0, 1, 2, 19, 20, 21, 39, 40, 41, 59, 60, 61, 399, 400, 401} {
		l := read(t, fmt.Sprintf("d = {}\nfor i in range(%d):\n d[%s + i * 7] = i\ns = 0\nfor k in d:\n for j in [0, 1]:\n  if k + j in d:\n   del d[k + j]\n d[k - 1] = -k\n"+
			" s = (s * 3 + k) %% 1000003\nprint(s, len(d), d == {})\nfor k in d:\n s = (s * 3 + k + d[k]) %% 1000003\nprint(s)\n", n, edges()[n%5]))
		for _, half := range []int{1, 100, 3000} {
			if kind := plays(t, l, 9000, roomy(half)); kind != "done" {
				t.Error(n, half, kind)
			}
		}
	}
}

// A cutter makes code in which functions take cells in any order: of the call that makes them, and of those around it.
type cutter struct {
	code.Code
	*rand.Rand
}

func (c *cutter) op(f *code.Func, name string, a int) {
	f.Ops = append(f.Ops, code.Op{Name: name, A: a})
}

// chosen: some of n cells, in an order in which there are stretches, gaps, leaps back and ones that come again.
func (c *cutter) chosen(n int) []int {
	var out []int
	step := []int{1, 1, 2, 3, 50, 51, -1, -2}[c.Intn(8)]
	for at := c.Intn(n); len(out) < 100 && c.Intn(60) > 0; at += step {
		if at < 0 || at >= n || c.Intn(40) == 0 {
			at = c.Intn(n)
		}
		out = append(out, at)
	}
	return out
}

// tell a list of what some cells hold.
func (c *cutter) tell(f *code.Func, cells []int) {
	cells = cells[:min(len(cells), 20)]
	c.op(f, "global", 0)
	for _, cell := range cells {
		c.op(f, "cell", cell)
	}
	c.op(f, "list", len(cells))
	c.op(f, "call", 1)
	c.op(f, "pop", 0)
}

// fill some cells anew.
func (c *cutter) fill(f *code.Func, cells []int) {
	for _, cell := range cells {
		c.op(f, "int", c.Intn(len(c.Ints)))
		c.op(f, "fill", cell)
	}
}

// add a Func, with so many cells and frees, and those that it makes; the deeper ones are told, and change, what they took.
func (c *cutter) add(cells, frees, deep int) int {
	number := len(c.Funcs)
	c.Funcs = append(c.Funcs, code.Func{})
	f := code.Func{Name: "f", Cells: cells, Frees: frees}
	all := make([]int, cells)
	for n := range all {
		all[n] = n
	}
	c.fill(&f, all)
	for range 1 + c.Intn(3) {
		if deep == 0 || cells+frees == 0 {
			break
		}
		taken := c.chosen(cells + frees)
		made := c.add([]int{0, 1, 30, 130}[c.Intn(4)], len(taken), deep-1)
		c.op(&f, "closure", made)
		for _, cell := range taken {
			c.op(&f, "take", cell)
		}
		c.op(&f, "dup", 0)
		c.op(&f, "call", 0)
		c.op(&f, "pop", 0)
		c.fill(&f, c.chosen(cells+frees))
		c.op(&f, "call", 0)
		c.op(&f, "pop", 0)
	}
	if cells+frees > 0 {
		c.tell(&f, c.chosen(cells+frees))
		c.fill(&f, c.chosen(cells+frees))
	}
	c.op(&f, "const", 0)
	c.op(&f, "return", 0)
	c.Funcs[number] = f
	return number
}

// P50, P122: cells are what they are, whichever functions take them, in whatever order.
func TestTaken(t *testing.T) {
	r := rand.New(rand.NewSource(5))
	most, told := 0, 0
	for seed := range int64(150) {
		c := &cutter{Rand: rand.New(rand.NewSource(seed))}
		c.Names = []string{"print"}
		c.Ints = []int64{0, 1, 2, 3, 4, 5, 6, 7, 8, 9, 1 << 61, 1<<61 - 1, -1 << 61, -1<<61 - 1, -1 << 63}
		c.Funcs = []code.Func{{Ops: []code.Op{{Name: "closure", A: 1}, {Name: "call"}, {Name: "halt"}}}}
		c.add([]int{1, 30, 70, 130, 400}[c.Intn(5)], 0, 2+c.Intn(2))
		if err := code.Verify(c.Code); err != nil {
			t.Fatal(seed, err)
		}
		if kind := runs(t, c.Code, 10, roomy(256)); kind == "done" {
			told++
		}
		runs(t, c.Code, 10, random(r))
		for _, f := range c.Funcs {
			most = max(most, f.Frees)
		}
	}
	if told < 100 || most < 90 {
		t.Error(told, most)
	}
}
