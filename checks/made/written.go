package made

import "strings"

// Written: programs that lead through all statements and terms.
func Written() []string {
	return []string{
		"",
		"pass\n",
		"print(None, True, False, 0, 9223372036854775807, \"a\\n\\xff\")\n",
		"print(-1, not 1, 1 + 2, 1 - 2, 3 * 4, 7 // 2, -7 % 4)\nprint(1 == 2, 1 != 2, 1 < 2, 1 <= 2, 1 > 2, 1 >= 2)\n",
		"print([] is [], 1 in [1], 5 - 3 - 1, \"a\" + \"b\" < \"b\")\n",
		"print([1, 2, 3], [], {}, {1: 2, \"a\": [3]}, {1: 1, 2: 2, 1: 3})\n",
		"l = [1, 2]\nl[0] = 5\nprint(l[0], l)\ndel l[0]\nprint(l)\nd = {1: 2}\nd[2] = 3\ndel d[1]\nprint(d)\n",
		"def f(x):\n print(x)\n return x\nl = [f(1), f(2)]\nf(l)[f(0)] = f(7)\n{f(1): f(2), f(3): f(4)}\ndel f(l)[f(1)]\nprint(f(5) - f(3), l)\n",
		"if 1:\n print(1)\nif 0:\n print(2)\n",
		"for x in [0, 1, 2, 3]:\n if x == 0:\n  print(0)\n elif x == 1:\n  print(1)\n elif x == 2:\n  pass\n else:\n  print(3)\n",
		"i = 0\nwhile i < 5:\n i = i + 1\n if i == 2:\n  continue\n if i == 4:\n  break\n print(i)\nprint(i)\n",
		"for x in \"abc\":\n for y in {1: 2, 3: 4}:\n  if y == 3:\n   break\n  print(x, y)\n if x == \"b\":\n  break\nprint(x, y)\n",
		"for x in []:\n print(x)\nprint(1)\nfor x in 5:\n print(2)\n",
		"l = [1]\nfor x in l:\n if x < 5:\n  push(l, x + 1)\n print(x)\n",
		"try:\n print(1)\n raise [1, 2]\n print(2)\nexcept e:\n print(e)\nprint(3)\n",
		"try:\n print(1)\nexcept e:\n print(2)\nprint(3)\nraise \"end\"\n",
		"for x in [1, 2, 3]:\n try:\n  try:\n   if x == 1:\n    continue\n   if x == 2:\n    raise x\n   break\n  except e:\n   print(e)\n   raise \"again\"\n except e:\n  print(x, e)\nprint(x)\n",
		"while True:\n try:\n  break\n except e:\n  pass\nprint(1 // 0)\n",
		"try:\n for x in [1, 2]:\n  try:\n   for y in [3, 4]:\n    print(x, y, [1, nothing])\n  except e:\n   print(e, x, y)\n x()\nexcept e:\n print(e)\n",
		"def f(l):\n for x in l:\n  try:\n   for y in l:\n    if x + y == 5:\n     return [x, y]\n  except e:\n   return e\nprint(f([1, 2, 3]), f([\"a\", 1]), f([]))\n",
		"def f():\n return\ndef g():\n pass\ndef h():\n if 0:\n  return 1\nprint(f(), g(), h(), f, g)\n",
		"def f(n):\n if n == 0:\n  return 1\n return n * f(n - 1)\nprint(f(10))\nf(100)\n",
		"def f(a, b, c):\n def g():\n  nonlocal b\n  b = b + a\n  return b\n return [g, lambda: b, lambda x: c + x]\nl = f(1, 2, 3)\nl[0]()\nprint(l[0](), l[1](), l[2](4))\n",
		"def f():\n x = 1\n def g():\n  def h():\n   nonlocal x\n   x = x + 1\n   return x\n  return h\n return g()\nh = f()\nh()\nprint(h())\n",
		"def f(a, b, c):\n d = b + c\n g = lambda: a\n return [g(), b, c, d]\nprint(f(1, 2, 3))\n",
		"def f(a, b):\n x = b\n def g(c, d):\n  e = d\n  y = [a, d]\n  return lambda: [c, x, e, y, a]\n return g(5, 6)\nprint(f(1, 2)())\n",
		"def f():\n global x\n x = 1\n def g():\n  return x\n return g\nprint(f()())\nx = 2\nprint(f)\n",
		"def f():\n print(x)\n x = 1\ntry:\n f()\nexcept e:\n print(e)\ndef g():\n y = lambda: z\n try:\n  y()\n except z:\n  pass\n return [z, y()]\nprint(g())\n",
		"def f(x):\n for x in [x, 2]:\n  g = lambda: x\n return g()\nprint(f(1))\n",
		"l = []\nfor x in [1, 2]:\n push(l, lambda y: [x, y])\nprint(l[0](1), l[1](2))\nprint((lambda: (lambda: 3)())())\n",
		"def f(x):\n print(x)\n return x\nprint(f(0) and f(1), f(2) and f(3), f(0) or f(4), f(5) or f(6), f(0) or f(\"\") or f(7) and f([]))\n",
		"print(1, nothing)\n",
		"nothing = print\nnothing(nothing, lambda: 0)\nprint = 1\nprint()\n",
		"print(input(), [input(), input()])\nprint(input())\nprint(input())\n",
		"def f():\n while 1:\n  return 1\n  print(2)\n raise 3\nprint(f())\nfor x in [1]:\n continue\n print(4)\nraise f\nprint(5)\n",
		"while lambda: 0:\n if [] or {}:\n  pass\n else:\n  break\n",
		"\"" + strings.Repeat("a", 2001) + "\"\n",
	}
}
