package gen_test

import (
	"testing"

	"nurserypy/checks/machine"
	"nurserypy/checks/made"
	"nurserypy/code"
	"nurserypy/gen"
	"nurserypy/tree"
	"nurserypy/walk"
)

// agrees fails unless the code of a program does, with this fuel, what walk.Run tells of it. It answers how that ended, and with how many steps.
func agrees(t *testing.T, l []tree.Stmt, c code.Code, fuel int) (string, int) {
	t.Helper()
	input := []string{"one", "", "a b", "\xff\"\n"}
	want, err := walk.Run(l, input, fuel)
	if got := machine.Run(c, input, fuel); got != want || err != nil {
		s, _ := tree.Text(l)
		t.Fatalf("fuel %d:\n%s%v, want %v, %v\n%s", fuel, s, got, want, err, code.Text(c))
	}
	return want.Kind, want.Steps
}

// P62: programs that lead through all statements and terms; with all fuel there is, and with each that is less. So each step is where P40 has it.
func TestDoes(t *testing.T) {
	for _, s := range []string{
		"",
		"pass\n",
		"print(None, True, False, 0, 9223372036854775807, \"a\\n\\xff\")\n",
		"print(-1, not 1, 1 + 2, 1 - 2, 3 * 4, 7 // 2, -7 % 4)\nprint(1 == 2, 1 != 2, 1 < 2, 1 <= 2, 1 > 2, 1 >= 2)\n",
		"print([] is [], 1 in [1], 5 - 3 - 1, \"a\" + \"b\" < \"b\")\n",
		"print([1, 2, 3], [], {}, {1: 2, \"a\": [3]}, {1: 1, 2: 2, 1: 3})\n",
		"l = [1, 2]\nl[0] = 5\nprint(l[0], l)\ndel l[0]\nprint(l)\nd = {1: 2}\nd[2] = 3\ndel d[1]\nprint(d)\n",
		"def f(x):\n print(x)\n return x\nl = [f(1), f(2)]\nf(l)[f(0)] = f(7)\n{f(1): f(2), f(3): f(4)}\ndel f(l)[f(1)]\nprint(f(5) - f(3), l)\n",
		"if 1:\n print(1)\nif 0:\n print(2)\n",
		"for x in [0, 1, 2, 3]:\n if x == 0:\n  print(0)\n elif x == 1:\n  print(1)\n elif x == 2:\n  pass\n else:\n  print(3)\n",
		"i = 0\nwhile i < 5:\n i = i + 1\n if i == 2:\n  continue\n if i == 4:\n  break\n print(i)\nprint(i)\n",
		"for x in \"abc\":\n for y in {1: 2, 3: 4}:\n  if y == 3:\n   break\n  print(x, y)\n if x == \"b\":\n  break\nprint(x, y)\n",
		"for x in []:\n print(x)\nprint(1)\nfor x in 5:\n print(2)\n",
		"l = [1]\nfor x in l:\n if x < 5:\n  push(l, x + 1)\n print(x)\n",
		"try:\n print(1)\n raise [1, 2]\n print(2)\nexcept e:\n print(e)\nprint(3)\n",
		"try:\n print(1)\nexcept e:\n print(2)\nprint(3)\nraise \"end\"\n",
		"for x in [1, 2, 3]:\n try:\n  try:\n   if x == 1:\n    continue\n   if x == 2:\n    raise x\n   break\n  except e:\n   print(e)\n   raise \"again\"\n except e:\n  print(x, e)\nprint(x)\n",
		"while True:\n try:\n  break\n except e:\n  pass\nprint(1 // 0)\n",
		"try:\n for x in [1, 2]:\n  try:\n   for y in [3, 4]:\n    print(x, y, [1, nothing])\n  except e:\n   print(e, x, y)\n x()\nexcept e:\n print(e)\n",
		"def f(l):\n for x in l:\n  try:\n   for y in l:\n    if x + y == 5:\n     return [x, y]\n  except e:\n   return e\nprint(f([1, 2, 3]), f([\"a\", 1]), f([]))\n",
		"def f():\n return\ndef g():\n pass\ndef h():\n if 0:\n  return 1\nprint(f(), g(), h(), f, g)\n",
		"def f(n):\n if n == 0:\n  return 1\n return n * f(n - 1)\nprint(f(10))\nf(100)\n",
		"def f(a, b, c):\n def g():\n  nonlocal b\n  b = b + a\n  return b\n return [g, lambda: b, lambda x: c + x]\nl = f(1, 2, 3)\nl[0]()\nprint(l[0](), l[1](), l[2](4))\n",
		"def f():\n x = 1\n def g():\n  def h():\n   nonlocal x\n   x = x + 1\n   return x\n  return h\n return g()\nh = f()\nh()\nprint(h())\n",
		"def f(a, b, c):\n d = b + c\n g = lambda: a\n return [g(), b, c, d]\nprint(f(1, 2, 3))\n",
		"def f(a, b):\n x = b\n def g(c, d):\n  e = d\n  y = [a, d]\n  return lambda: [c, x, e, y, a]\n return g(5, 6)\nprint(f(1, 2)())\n",
		"def f():\n global x\n x = 1\n def g():\n  return x\n return g\nprint(f()())\nx = 2\nprint(f)\n",
		"def f():\n print(x)\n x = 1\ntry:\n f()\nexcept e:\n print(e)\ndef g():\n y = lambda: z\n try:\n  y()\n except z:\n  pass\n return [z, y()]\nprint(g())\n",
		"def f(x):\n for x in [x, 2]:\n  g = lambda: x\n return g()\nprint(f(1))\n",
		"l = []\nfor x in [1, 2]:\n push(l, lambda y: [x, y])\nprint(l[0](1), l[1](2))\nprint((lambda: (lambda: 3)())())\n",
		"def f(x):\n print(x)\n return x\nprint(f(0) and f(1), f(2) and f(3), f(0) or f(4), f(5) or f(6), f(0) or f(\"\") or f(7) and f([]))\n",
		"print(1, nothing)\n",
		"nothing = print\nnothing(nothing, lambda: 0)\nprint = 1\nprint()\n",
		"print(input(), [input(), input()])\nprint(input())\nprint(input())\n",
		"def f():\n while 1:\n  return 1\n  print(2)\n raise 3\nprint(f())\nfor x in [1]:\n continue\n print(4)\nraise f\nprint(5)\n",
		"while lambda: 0:\n if [] or {}:\n  pass\n else:\n  break\n",
		"\"" + many("a", 2001, "") + "\"\n",
	} {
		l := read(t, s)
		c := compiled(t, l)
		_, steps := agrees(t, l, c, 1000)
		for less := range steps + 1 {
			agrees(t, l, c, less)
		}
	}
}

// P62: the same of made-up programs, with much fuel and with less.
func TestMadeUp(t *testing.T) {
	kinds := map[string]int{}
	for seed := range 800 {
		l := made.Program(seed)
		c := compiled(t, l)
		for _, fuel := range []int{2000, seed % 97} {
			kind, _ := agrees(t, l, c, fuel)
			kinds[kind]++
		}
		shaped(t, l, c)
		if got, err := gen.Names(l); err != nil || !same(got, globals(t, l)) {
			s, _ := tree.Text(l)
			t.Fatalf("%s%v, %v, want %v", s, got, err, globals(t, l))
		}
	}
	for _, k := range []string{"done", "raised", "tired"} {
		if kinds[k] < 50 {
			t.Errorf("just %d were %s", kinds[k], k)
		}
	}
}
