package vm_test

import (
	"slices"
	"strconv"
	"strings"
	"testing"

	"nurserypy/api"
	"nurserypy/code"
)

// P120: a str that may be asked for again takes no room as long as nothing leads to it; it is there again, however often
// it was gone: oftener than a heap has weak references.
func TestGoneAndThereAgain(t *testing.T) {
	const often = api.MaxRoots + 500
	long := func(s string) string { return "\"" + strings.Repeat(s, 100) + "\"" }
	for _, s := range []string{
		" s = " + long("a") + "\n s = " + long("b") + "\n s = " + long("c") + "\n s = " + long("d") + "\n",
		" s = " + long("a") + "\n s = [s, s]\n s = s[0] == s[1]\n",
		" try:\n  s\n except s:\n  pass\n try:\n  s()\n except s:\n  print\n s = s == \"TypeError\" or s\n",
		" for s in \"abcdefghijklmnopqrst\":\n  break\n s = s == \"ab\"[0] or s\n",
		" s = \"abc\"[-1] + \"\"\n",
	} {
		l := read(t, "s = 0\ni = 0\nwhile i < "+strconv.Itoa(often)+":\n i = i + 1\n"+s+" collect(1)\nprint(s)\n")
		for _, half := range []int{1, 40} {
			if kind := plays(t, l, api.MaxFuel, tight(half, 45)); kind != "done" {
				t.Errorf("%s, %d: %s", s, half, kind)
			}
		}
	}
}

// P120: as many strs as code can have written out, and all bytes, and things that go wrong: each asked for twice.
func TestSharedMost(t *testing.T) {
	const most = 2000
	asked := strings.Repeat("str s; pop; ", most-1)
	c := assembled("|" + asked + "str s; iter; top: next out; pop; jump top; out: jump wrong; wrong: try caught; global x; halt; caught: pop; int 1; int 0; div; raise")
	for n := range c.Strs {
		c.Strs[n] = strconv.Itoa(n)
	}
	for n := range 256 {
		c.Strs[most-1] += string([]byte{byte(n)})
	}
	c.Funcs[0].Ops = append(slices.Clone(c.Funcs[0].Ops[:2*most-2]), moved(c.Funcs[0].Ops, 2*most-2)...)
	for _, old := range []int{100, api.MaxWords} {
		s := roomy(50)
		s.Old = old
		if kind := runs(t, c, 10, s); kind != "raised" {
			t.Error(old, kind)
		}
	}
}

// moved: the same ops, so much further on.
func moved(ops []code.Op, by int) []code.Op {
	out := slices.Clone(ops)
	for n, op := range out {
		switch op.Name {
		case "next", "jump", "try":
			out[n].A = op.A + by
		}
	}
	return out
}
