package vm_test

import (
	"fmt"
	"strings"
	"testing"

	"nurserypy/api"
	"nurserypy/tree"
	"nurserypy/vm"
	"nurserypy/walk"
)

// neverFull: a program does by the machine what it does by walk.Run, where Half is 256 or more, and Old is 65536.
func neverFull(t *testing.T, what, program string) {
	t.Helper()
	l := read(t, program)
	if text, err := tree.Text(l); err != nil {
		t.Fatal(what, len(text), err)
	}
	want, err := walk.Run(l, nil, api.MaxFuel)
	if err != nil || want.Kind == "tired" {
		t.Fatal(what, want, err)
	}
	for n, half := range []int{256, 3000, api.MaxWords} {
		s := roomy(half)
		s.Tenure = []int{1, 0, 15}[n]
		for step := range 20 {
			s.Force = append(s.Force, vm.Force{Step: step * want.Steps / 20, Major: step%2 > 0})
		}
		if got, err := vm.Play(l, nil, api.MaxFuel, s); got != want || err != nil {
			t.Error(what, half, got, err, want)
		}
	}
}

// names of two letters, that are no words of the language.
func names(n int) []string {
	var out []string
	for i := range n {
		out = append(out, string("hjkmqsuvyzx_"[i/37])+string("abcdefghijklmnopqrstuvwxyz_0123456789"[i%37]))
	}
	return out
}

// times: so many of a thing, with commas between.
func times(n int, thing string) string {
	return strings.Join(strings.Split(strings.Repeat(thing+"\n", n), "\n")[:n], ", ")
}

const great = "x = 4611686018427387904\n"

// stock makes so many dicts of 20 keys, one in the other, and a function; all keys and other values are great ints, told
// from x on.
func stock(dicts int) string {
	return great + "def fill(d):\n i = 0\n while i < 20:\n  d[x + i] = x + i\n  i = i + 1\n return d\n" +
		fmt.Sprintf("l = 0\nn = 0\nwhile n < %d:\n d = fill({})\n d[x] = l\n l = d\n n = n + 1\n", dicts)
}

// A dict d, and a function that takes all its keys out, and puts others in, that there never were; or the same ones again.
const (
	renewed  = "d = fill({})\nx = x + 20\ndef new():\n global x\n for k in d:\n  del d[k]\n  d[x] = x\n  x = x + 1\n"
	repeated = "d = fill({})\ndef new():\n for k in d:\n  del d[k]\n  d[k + 0] = k\n"
)

// loops over d, so many in each other, each of which changes d first, and a line in the innermost one. They stand so deep.
func loops(n, deep int, line string) string {
	var out strings.Builder
	for i := range n {
		indent := strings.Repeat(" ", deep+i)
		fmt.Fprintf(&out, "%sfor k in d:\n%s new()\n", indent, indent)
	}
	return out.String() + strings.Repeat(" ", deep+n) + line
}

// deep: a function of so many parameters, that calls itself with so many of a thing as long as it can. What stands ahead
// of that in its body ends with the blanks of its line.
func deep(n int, ahead, thing string) string {
	call := "f(" + times(n, thing) + ")\n"
	return "def f(" + strings.Join(names(n), ", ") + "):\n" + ahead + call + call
}

// P120: never full, where few things are made, none of them great: however many values are on the stack, in locals and in
// cells; whatever those things are.
func TestNeverFull(t *testing.T) {
	all, few := names(280), names(20)
	for what, s := range map[string]string{
		"stack":     great + "def f():\n return [" + strings.Repeat("-x, ", 980) + "f()]\nf()\n",
		"arguments": great + deep(390, " ", "-x"),
		"cells":     great + deep(280, " 0 and (lambda: ["+strings.Join(all, ", ")+"])\n ", "-x"),
		"dicts":     stock(299) + "print(len(l))\n",
		"lists":     great + "def f(l):\n l = [l]\n i = 0\n while i < 19:\n  push(l, x + i)\n  i = i + 1\n return l\ni = 0\nl = 0\nwhile i < 299:\n i = i + 1\n l = f(l)\nprint(len(l))\n",
		"strs":      "def f(l):\n return [l, \"" + strings.Repeat("a", 19) + "\" + str(0)]\ni = 0\nl = 0\nwhile i < 75:\n i = i + 1\n l = f(l)\nprint(len(l))\n",
		"functions": great + "def f(" + strings.Join(few, ", ") + "):\n return lambda: [" + strings.Join(few, ", ") + "]\ni = 0\nl = 0\nwhile i < 298:\n i = i + 1\n l = f(l" + strings.Repeat(", x + i", 19) + ")\nprint(l)\n",
		"pairs":     stock(298) + "print({" + times(499, "x: x") + "})\n",
	} {
		neverFull(t, what, s)
	}
}

// P120: never full, however many loops are open, over a dict that had other keys in each of them.
func TestNeverFullByLoops(t *testing.T) {
	neverFull(t, "the same keys", stock(296)+repeated+"def f():\n"+loops(10, 1, "f()\n")+loops(11, 0, "f()\n"))
	neverFull(t, "other keys", stock(296)+renewed+"def f():\n"+loops(10, 1, "f()\n")+loops(11, 0, "f()\n"))
	neverFull(t, "keys of each kind", stock(295)+renewed+"for k in [None, True, 5]:\n del d[x - 1]\n x = x - 1\n d[k] = x\n"+
		"x = x + 20\ndef f():\n"+loops(10, 1, "f()\n")+loops(11, 0, "f()\n"))
}

// P120: never full by what was in a thing once, and is in a name still.
func TestNeverFullByNames(t *testing.T) {
	const next = "c = [x]\ndef g():\n c[0] = c[0] + 1\n return c[0]\n"
	neverFull(t, "locals", stock(200)+next+deep(370, " ", "g()"))
	neverFull(t, "cells", stock(200)+next+deep(270, " lambda: ["+strings.Join(names(270), ", ")+"]\n ", "g()"))
}

// P120: a function has neither bytes nor elements: never full by the cells of all calls that are open, whatever else there
// is; nor by the cells of one call that many functions have, or by some of each call of many.
func TestNeverFullByCells(t *testing.T) {
	taken := func(n int) string { return "lambda: [" + strings.Join(names(n), ", ") + "]" }
	neverFull(t, "calls", great+deep(390, " "+taken(390)+"\n ", "x"))
	neverFull(t, "calls and loops", stock(230)+renewed+deep(340, loops(10, 1, taken(340)+"\n"+strings.Repeat(" ", 11)), "x"))
	many := "i = 0\nall = []\nwhile i < 14:\n i = i + 1\n l = []\n push(all, l)\n"
	neverFull(t, "one call", great+"def f("+strings.Join(names(390), ", ")+"):\n"+
		strings.ReplaceAll(" "+many, "\n", "\n ")+" while len(l) < 20:\n   push(l, "+taken(390)+")\nf("+times(390, "x")+")\n")
	neverFull(t, "many calls", great+"def f("+strings.Join(names(150), ", ")+"):\n return "+taken(150)+"\n"+
		many+" while len(l) < 20:\n  push(l, f("+times(150, "x")+"))\n  x = x + 1\n")
}

// P120: never full by strs that a run does not make, if that is so read: those that are written out, names of what goes
// wrong, single bytes.
func TestNeverFullByStrs(t *testing.T) {
	puts := ""
	for n := range 20 {
		puts += fmt.Sprintf("  d[\"%020d\"] = \"%020d\"\n", n, n+20)
	}
	neverFull(t, "written out", "l = []\nfor a in [1, 2, 3, 4, 5, 6, 7, 8, 9, 10, 11, 12, 13, 14]:\n m = []\n push(l, m)\n while len(m) < 20:\n  d = {}\n"+puts+"  push(m, d)\n")
	const wrong = "def g():\n try:\n  1 // 0\n except e:\n  return e\n"
	neverFull(t, "wrong", wrong+deep(370, " ", "g()"))
	neverFull(t, "wrong, and gone once", wrong+"g()\ncollect(1)\n"+deep(370, " ", "g()"))
	neverFull(t, "bytes", "s = \"abcdefghijklmnopqrst\"\ndef g():\n for c in s:\n  return c\n"+deep(390, " ", "g()"))
	neverFull(t, "bytes by number", "s = \"abcdefghijklmnopqrst\"\ndef g():\n return s[7]\n"+deep(390, " ", "g()"))
}
