package vm_test

import (
	"strings"
	"testing"

	"nurserypy/api"
	"nurserypy/heap"
	"nurserypy/vm"
	"nurserypy/walk"
)

func tight(half, old int) vm.Setting {
	return vm.Setting{Config: heap.Config{Half: half, Old: old, Card: 8, Tenure: 1}}
}

// P120: where more lives than there is room for, it is full: what was done ahead is told.
func TestFull(t *testing.T) {
	for _, s := range []string{
		"l = []\nwhile True:\n print(len(l))\n push(l, [1, 2])\n",
		"l = []\nwhile True:\n print(1)\n l = [l, str(l is l)]\n",
		"d = {}\ni = 0\nwhile True:\n i = i + 1\n print(i)\n d[str(i)] = i\n",
		"def f(g):\n print(1)\n return f(lambda: g)\nwhile True:\n try:\n  f(0)\n except e:\n  raise e\n",
		"s = \"a\"\nwhile True:\n print(len(s))\n s = s + s\n",
		"print(1)\nl = range(1000)\nprint(l)\n",
		"print(1)\nl = []\nfor x in range(99):\n push(l, 4611686018427387904 + x)\nprint(l)\n",
		"print(1)\nl = [" + strings.Repeat("[], ", 99) + "[]]\nprint(2)\n",
	} {
		l := read(t, s)
		want, err := walk.Run(l, nil, 2000)
		if err != nil {
			t.Fatal(err)
		}
		for _, half := range []int{1, 10, 100} {
			o, err := vm.Play(l, nil, 2000, tight(half, 120))
			if o.Kind != "full" || !agrees(o, want) || o.Output == "" || o.Steps == 0 || err != nil {
				t.Errorf("%s, %d: %v, %v", s, half, o, err)
			}
		}
	}
}

// P120: what nothing leads to any more takes no room, wherever it was: on the stack, in locals and cells, behind the last
// element of a list, in what is gone through.
func TestGivenUp(t *testing.T) {
	great := "[" + strings.Repeat("0, ", 149) + "0]"
	for _, s := range []string{
		"for i in range(30):\n x = range(100)\n x = 0\n",
		"for i in range(30):\n range(100)\n",
		"l = []\nfor i in range(30):\n push(l, range(100))\n pop(l)\n",
		"l = [0]\nfor i in range(30):\n l[0] = range(100)\n del l[0]\n push(l, 0)\n",
		"l = []\nfor i in range(3):\n push(l, range(100))\nfor i in range(3):\n pop(l)\nm = [range(100), range(100), range(100)]\n",
		"l = [range(100), range(100), range(100)]\nwhile l:\n del l[0]\nm = [range(100), range(100), range(100)]\n",
		"d = {}\nfor i in range(30):\n d[0] = range(100)\n del d[0]\n",
		"d = {0: range(100), 1: range(100), 2: range(100)}\nfor i in keys(d):\n del d[i]\nm = [range(100), range(100), range(100)]\n",
		"d = {0: 1}\nfor i in range(30):\n d[0] = range(100)\n d[0] = 0\n",
		"def f(x):\n y = range(100)\n return 0\nfor i in range(30):\n f(0)\n",
		"def f(x):\n y = range(100)\n return lambda: y\nfor i in range(30):\n f(0)()\n",
		"def f(x):\n y = range(100)\n raise x\nfor i in range(30):\n try:\n  f(0)\n except e:\n  pass\n",
		"for i in range(30):\n for x in range(100):\n  break\n",
		"for i in range(30):\n try:\n  [range(100), 1 // 0]\n except e:\n  pass\n",
		"for i in range(30):\n try:\n  raise range(100)\n except e:\n  e = 0\n",
		"for i in range(30):\n x = " + great + " == 0\n",
		"for i in range(30):\n x = len(" + great + ")\n",
		"for i in range(30):\n x = 0 in " + great + "\n",
		"for i in range(30):\n x = {0: 1}[0] and " + great + "[1]\n",
		"s = \"" + strings.Repeat("a", 800) + "\"\nfor i in range(30):\n t = s + \"b\"\n t = s < \"b\"\n t = 0\n",
		"i = 4611686018427387904\nwhile i < 4611686018427388104:\n i = i + 1\n",
		"def f(n):\n return [n, f]\nfor i in range(30):\n f(range(100))\n",
	} {
		l := read(t, s)
		for _, x := range []vm.Setting{tight(5, 400), tight(60, 400), tight(300, 400)} {
			if o, err := vm.Play(l, nil, 5000, x); o.Kind != "done" || err != nil {
				t.Errorf("%s, %v: %v, %v", s, x, o, err)
			}
		}
	}
}

// P120: a collection is done behind just so many steps: where the heap has no room for what lives, it is full then.
func TestForce(t *testing.T) {
	l := read(t, "print(0)\nl = [1]\nprint(1)\nprint(2)\nl = 0\nprint(3)\n")
	whole := api.Outcome{Kind: "done", Output: "0\n1\n2\n3\n", Steps: 6}
	// What lives: print, in 2 words, and, from the second statement on to the fifth, a list, in 6. Without a collection
	// there is room for all of it in the nursery.
	for old, first := range map[int]int{4: 3, 1: 0, 8: 99} {
		last := map[int]int{4: 5, 1: 6, 8: 0}[old]
		for step := -1; step < 9; step++ {
			for _, major := range []bool{false, true} {
				want := whole
				if step >= first && step <= last {
					printed := []int{0, 0, 1, 1, 2, 3, 3}[step]
					want = api.Outcome{Kind: "full", Output: whole.Output[:2*printed], Steps: step}
				}
				s := tight(1000, old)
				s.Force = []vm.Force{{Step: -3}, {Step: step, Major: major}, {Step: step}, {Step: 99, Major: true}}
				if o, err := vm.Play(l, nil, 100, s); o != want || err != nil {
					t.Error(old, step, major, o, err)
				}
			}
		}
	}
}

// P45: collect does a collection, too.
func TestCollect(t *testing.T) {
	for n, want := range map[string]string{"0": "full||1\n", "1": "full||1\n", "2": "raised|\"ValueError\"|1\n", "-1": "raised|\"ValueError\"|1\n", "True": "raised|\"TypeError\"|1\n"} {
		o, err := vm.Play(read(t, "l = [1]\nprint(1)\ncollect("+n+")\nprint(2)\n"), nil, 100, tight(1000, 4))
		if tell(o) != want || err != nil {
			t.Error(n, o, err)
		}
		if o, err := vm.Play(read(t, "l = [1]\nprint(collect(0), collect(1), l)\n"), nil, 100, tight(1000, 100)); tell(o) != "done||None None [1]\n" || err != nil {
			t.Error(o, err)
		}
	}
}

// P120: even what there is from the beginning may be too much; what needs no words is never too much.
func TestNoRoom(t *testing.T) {
	if o, err := vm.Play(read(t, "print(1)\n"), nil, 100, tight(1, 1)); o != (api.Outcome{Kind: "full"}) || err != nil {
		t.Error(o, err)
	}
	for s, want := range map[string]string{
		"{}\n":                      "full||",
		"for x in 5:\n pass\n":      "raised|\"TypeError\"|",
		"x\n":                       "raised|\"NameError\"|",
		"1()\n":                     "raised|\"TypeError\"|",
		"1[0]\n":                    "raised|\"TypeError\"|",
		"1 // 0\n":                  "raised|\"ZeroDivisionError\"|",
		"try:\n x\nexcept e:\n e\n": "full||",
	} {
		if o, err := vm.Play(read(t, s), nil, 100, tight(1, 1)); tell(o) != want || err != nil {
			t.Error(s, o, err)
		}
	}
	l := read(t, "x = 4611686018427387904\nwhile x > 4611686018427387900:\n x = x - 1\n x == None or -x // 2\nraise x\n")
	if o, err := vm.Play(l, nil, 100, tight(1, 1)); tell(o) != "raised|4611686018427387900|" || err != nil {
		t.Error(o, err)
	}
}
