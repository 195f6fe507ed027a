package walk_test

import (
	"strconv"
	"strings"
	"testing"

	"nurserypy/api"
)

// P41: names that have no value.
func TestNameError(t *testing.T) {
	for _, d := range []does{
		{"x", "", `"NameError"`},
		{"x = x", "", `"NameError"`},
		{"x[0] = 1", "", `"NameError"`},
		{"if 0:\n  x = 1\nx", "", `"NameError"`},
		{"for x in []:\n  pass\nx", "", `"NameError"`},
		{"try:\n  pass\nexcept x:\n  pass\nx", "", `"NameError"`},
		{"def f():\n  return x\nx = 1\nprint(f())", "1", ""},
		{"def f():\n  return x\nf()\nx = 1", "", `"NameError"`},
		{"def f():\n  y = x\n  x = 1\nx = 2\nf()", "", `"NameError"`},
		{"def f():\n  print(len)\n  len = 1\nf()", "", `"NameError"`},
		{"def f():\n  def g():\n    return x\n  y = g()\n  x = 1\nx = 2\nf()", "", `"NameError"`},
		{"def f():\n  def g():\n    nonlocal x\n    x = 1\n  if 0:\n    x = 2\n  g()\n  return x\nprint(f())", "1", ""},
		{"def f():\n  global x\n  return x\nf()", "", `"NameError"`},
		{"def f():\n  global x\n  x = 5\nf()\nprint(x)", "5", ""},
		{"def f(n):\n  if n:\n    x = n\n  return x\nprint(f(1))\nf(0)", "1", `"NameError"`},
	} {
		d.check(t)
	}
}

// P44, P30: whose a name is.
func TestNames(t *testing.T) {
	for _, d := range []does{
		{"x = 1\ndef f(x):\n  x = x + 1\n  return x\nprint(f(5), x)", "6 1", ""},
		{"x = 1\ndef f():\n  x = 2\n  def g():\n    global x\n    x = x + 10\n    return x\n  return [g(), x]\nprint(f(), x)", "[11, 2] 11", ""},
		{"def mk(n):\n  def up(by):\n    nonlocal n\n    n = n + by\n    return n\n  return [up, lambda: n]\na = mk(1)\nb = mk(10)\na[0](2)\nb[0](5)\nprint(a[1](), b[1](), a[0](1), a[1]())", "3 15 4 4", ""},
		{"l = []\ndef f():\n  for i in range(3):\n    push(l, lambda: i)\nf()\nprint(l[0](), l[1](), l[2]())", "2 2 2", ""},
		{"l = []\ndef f(i):\n  return lambda: i\nfor i in range(3):\n  push(l, f(i))\nprint(l[0](), l[1](), l[2]())", "0 1 2", ""},
		{"def f():\n  a = 1\n  g = lambda: a\n  a = 2\n  return g()\nprint(f())", "2", ""},
		{"def f():\n  def g():\n    def h():\n      nonlocal a\n      a = a + 1\n      return a\n    return h\n  a = 0\n  return g()\nh = f()\nh()\nprint(h(), f()())", "2 1", ""},
		{"def f(n):\n  g = lambda: n\n  if n:\n    return [g()] + f(n - 1)\n  return []\nprint(f(3))", "[3, 2, 1]", ""},
		{"def f():\n  try:\n    raise 5\n  except e:\n    g = lambda: e\n  e = e + 1\n  return g()\nprint(f())", "6", ""},
		{"def f():\n  def g():\n    return g\n  return g\nprint(f()() is f(), f())", "False <function g>", ""},
		{"f = lambda a: lambda b: [a, b]\nprint(f(1)(2), f, f(1))", "[1, 2] <function lambda> <function lambda>", ""},
		{"len = 3\nprint(len)\ndef f(print):\n  return print\nprint(f(1))", "3\n1", ""},
		{"def len(x):\n  return 7\nprint(len([]), len)", "7 <function len>", ""},
		{"def f():\n  global len\n  len = str\nf()\nprint(len(5) + \"x\")", "5x", ""},
	} {
		d.check(t)
	}
}

// P44: calls.
func TestCalls(t *testing.T) {
	for _, d := range []does{
		{"def f():\n  pass\nprint(f())", "None", ""},
		{"def f():\n  return\nprint(f())", "None", ""},
		{"def f(a, b):\n  return [a, b]\n  print(1)\nprint(f(1, 2))", "[1, 2]", ""},
		{"def f(a):\n  return a\nf()", "", `"TypeError"`},
		{"def f(a):\n  return a\nf(1, 2)", "", `"TypeError"`},
		{"def f():\n  return 1\nf(1)", "", `"TypeError"`},
		{"None()", "", `"TypeError"`},
		{"1(2)", "", `"TypeError"`},
		{"\"len\"([])", "", `"TypeError"`},
		{"[len](1)", "", `"TypeError"`},
		{"{}()", "", `"TypeError"`},
		{"True()", "", `"TypeError"`},
		{"print([len][0]([1]), {1: str}[1](2) + \"\")", "1 2", ""},
		{"print((lambda: 1)(), (lambda x, y: x - y)(5, 3))", "1 2", ""},
		{"def f(a):\n  push(a, 1)\nl = []\nf(l)\nprint(l)", "[1]", ""},
		{"def f():\n  for x in [1, 2]:\n    while 1:\n      if x == 1:\n        return [x]\nprint(f())", "[1]", ""},
		{"def f():\n  while 1:\n    for x in \"ab\":\n      return x\nprint(f())", "a", ""},
		{"def f():\n  try:\n    return 1\n  except e:\n    return 2\nprint(f())", "1", ""},
		{"def f():\n  try:\n    1 // 0\n  except e:\n    return e\nprint(f())", "ZeroDivisionError", ""},
		{"def f():\n  for x in [1]:\n    return\n  return 2\nprint(f())", "None", ""},
		{"def f(n):\n  if n == 0:\n    return []\n  l = f(n - 1)\n  push(l, n)\n  return l\nprint(f(5))", "[1, 2, 3, 4, 5]", ""},
	} {
		d.check(t)
	}
}

// P41: calls in each other; those of builtins are none, and those that were given up are no more open.
func TestRecursion(t *testing.T) {
	f := "def f(n):\n  print(len([n]))\n  if n > 1:\n    return f(n - 1)\n  return n\n"
	say := func(n int) string { return strings.TrimSuffix(strings.Repeat("1\n", n), "\n") }
	does{f + "f(60)", say(60), ""}.check(t)
	does{f + "f(61)", say(60), `"RecursionError"`}.check(t)
	does{f + "try:\n  f(99)\nexcept e:\n  print(e)\nf(60)", say(60) + "\nRecursionError\n" + say(60), ""}.check(t)
	does{f + "def g():\n  f(60)\ng()", say(59), `"RecursionError"`}.check(t)
	does{f + "def g():\n  try:\n    f(99)\n  except e:\n    f(59)\n  f(59)\n  f(60)\ng()", say(59 * 4), `"RecursionError"`}.check(t)
	does{"def f(n):\n  if n:\n    return f(n - 1)\n  return g()\ng = lambda x: x\nf(59)", "", `"TypeError"`}.check(t)
	does{"def f(n):\n  if n:\n    return f(n - 1)\n  return 1()\nf(59)", "", `"TypeError"`}.check(t)
	does{"f = lambda: f()\nf()", "", `"RecursionError"`}.check(t)
	does{"f = lambda: f()\nn = 0\nfor i in range(9):\n  try:\n    f()\n  except e:\n    n = n + 1\nprint(n)", "9", ""}.check(t)
	// Each of those calls is a step; the one that raises is none.
	if o := run(t, "f = lambda: f()\nf()", enough); o.Steps != 2+api.MaxCalls {
		t.Error(o)
	}
	if o := run(t, "f = lambda: f()\nf()", 2+api.MaxCalls); tell(o) != "raised|\"RecursionError\"|" {
		t.Error(o)
	}
}

// P41: raise and try.
func TestTry(t *testing.T) {
	for _, d := range []does{
		{"try:\n  print(1)\nexcept e:\n  print(2)\nprint(3)", "1\n3", ""},
		{"try:\n  print(1)\n  raise 5\n  print(2)\nexcept e:\n  print(e)\nprint(e)", "1\n5\n5", ""},
		{"try:\n  raise None\nexcept e:\n  print(e is None)", "True", ""},
		{"l = [1]\ntry:\n  raise l\nexcept e:\n  push(e, 2)\nprint(l)", "[1, 2]", ""},
		{"try:\n  [1, print(1), 1 // 0, print(2)]\nexcept e:\n  print(e)", "1\nZeroDivisionError", ""},
		{"l = []\ndef f():\n  push(l, 1)\n  raise 2\ntry:\n  l = [f()]\nexcept e:\n  print(l, e)", "[1] 2", ""},
		{"try:\n  try:\n    raise 1\n  except e:\n    raise [e]\nexcept e:\n  print(e)", "[1]", ""},
		{"try:\n  try:\n    raise 1\n  except a:\n    pass\n  raise 2\nexcept b:\n  print(a, b)", "1 2", ""},
		{"def f():\n  raise \"x\"\ntry:\n  f()\nexcept e:\n  print(e == \"x\")", "True", ""},
		{"def f():\n  try:\n    raise 1\n  except e:\n    pass\n  raise 2\nf()", "", "2"},
		{"for i in range(4):\n  try:\n    if i == 1:\n      continue\n    if i == 3:\n      break\n    raise i\n  except e:\n    print(e)", "0\n2", ""},
		{"for i in range(3):\n  try:\n    raise i\n  except e:\n    if e == 1:\n      break\n    continue\nprint(i)", "1", ""},
		{"i = 0\nwhile i < 3:\n  i = i + 1\n  try:\n    raise i\n  except e:\n    continue\n  print(i)\nprint(e)", "3", ""},
		{"try:\n  x = 1\n  y = z\nexcept e:\n  print(x, e)\ny", "1 NameError", `"NameError"`},
		{"d = {}\ntry:\n  d[1] = d[2]\nexcept e:\n  print(d, e)", "{} KeyError", ""},
		{"try:\n  raise raised\nexcept e:\n  print(e)", "NameError", ""},
		{"def f():\n  global e\n  try:\n    raise 3\n  except e:\n    pass\nf()\nprint(e)", "3", ""},
		{"def f():\n  e = 1\n  def g():\n    nonlocal e\n    try:\n      raise 3\n    except e:\n      pass\n  g()\n  return e\nprint(f())", "3", ""},
		{"try:\n  for x in [1, 2]:\n    for y in \"ab\":\n      if x == 2:\n        raise [x, y]\nexcept e:\n  print(e, x, y)", "[2, \"a\"] 2 a", ""},
	} {
		d.check(t)
	}
}

// P44: for; and while.
func TestLoops(t *testing.T) {
	for _, d := range []does{
		{"for x in [1, [2]]:\n  print(x)\nprint(x)", "1\n[2]\n[2]", ""},
		{"for x in \"a\\n\\xff\":\n  print([x])", "[\"a\"]\n[\"\\n\"]\n[\"\\xff\"]", ""},
		{"for x in {1: 2, \"a\": 3, None: 4}:\n  print(x)", "1\na\nNone", ""},
		{"for x in []:\n  print(x)\nfor x in \"\":\n  print(x)\nfor x in {}:\n  print(x)", "", ""},
		{"l = [1]\nfor x in l:\n  if len(l) < 5:\n    push(l, x * 2)\nprint(l)", "[1, 2, 4, 8, 16]", ""},
		{"l = [1, 2, 3, 4]\nfor x in l:\n  print(x)\n  pop(l)", "1\n2", ""},
		{"l = [1, 2, 3, 4]\nfor x in l:\n  print(x)\n  del l[0]", "1\n3", ""},
		{"l = [1, 2]\nfor x in l:\n  l = [7, 8, 9]\n  print(x)", "1\n2", ""},
		{"l = [1, 2]\nfor x in l:\n  l[1] = 5\n  print(x)", "1\n5", ""},
		{"d = {1: 2, 3: 4}\nfor x in d:\n  d[x + 10] = 0\n  del d[x]\n  print(x)\nprint(d)", "1\n3\n{11: 0, 13: 0}", ""},
		{"d = {1: 0, 2: 0, 3: 0}\nfor x in d:\n  if x == 1:\n    del d[1]\n  print(x)", "1\n2\n3", ""},
		{"d = {1: 2, 3: 4}\nfor x in d:\n  del d[3]\n  print(x)", "1", `"KeyError"`},
		{"s = \"ab\"\nfor x in s:\n  s = s + x\nprint(s)", "abab", ""},
		{"for x in [1, 2]:\n  x = x * 10\n  print(x)", "10\n20", ""},
		{"for x in 5:\n  pass", "", `"TypeError"`},
		{"for x in None:\n  pass", "", `"TypeError"`},
		{"for x in True:\n  pass", "", `"TypeError"`},
		{"for x in len:\n  pass", "", `"TypeError"`},
		{"for x in lambda: 1:\n  pass", "", `"TypeError"`},
		{"for x in [1, 2, 3]:\n  for y in [1, 2, 3]:\n    if y == x:\n      break\n    print(x, y)", "2 1\n3 1\n3 2", ""},
		{"for x in [1, 2]:\n  for y in [1, 2]:\n    if y == 1:\n      continue\n    print(x, y)", "1 2\n2 2", ""},
		{"i = 0\nwhile i < 5:\n  i = i + 1\n  if i == 2:\n    continue\n  if i == 4:\n    break\n  print(i)\nprint(i)", "1\n3\n4", ""},
		{"while 1:\n  while 1:\n    break\n  print(1)\n  break", "1", ""},
		{"def f():\n  l = [f]\n  for f in l:\n    pass\nf()", "", `"NameError"`},
	} {
		d.check(t)
	}
}

// P45: builtins.
func TestBuiltins(t *testing.T) {
	is(t, "f = lambda x: x\nl = [1, 2]\nd = {1: 2, \"a\": 3}",
		"len(\"\")", "0", `len("a\x00\n")`, "3", "len(l)", "2", "len([])", "0", "len(d)", "2", "len({})", "0", "len(1)", "TypeError", "len(None)", "TypeError", "len(True)", "TypeError", "len(f)", "TypeError", "len(len)", "TypeError",
		"str(5)", `"5"`, "str(-5)", `"-5"`, `str("a\n")`, `"a\n"`, `str(["a"])`, `"[\"a\"]"`, "str(None)", `"None"`, "str(True)", `"True"`, "str(f)", `"<function lambda>"`, "str(str)", `"<builtin str>"`, "str(d)", `"{1: 2, \"a\": 3}"`,
		"push([], 1)", "None", "push(1, 2)", "TypeError", `push("a", "b")`, "TypeError", "push({}, 1)", "TypeError", "push(None, 1)", "TypeError",
		"pop([1, 2])", "2", "pop([[]])", "[]", "pop([])", "IndexError", "pop(d)", "TypeError", `pop("a")`, "TypeError", "pop(1)", "TypeError",
		"keys(d)", `[1, "a"]`, "keys({})", "[]", "keys([])", "TypeError", `keys("")`, "TypeError", "keys(None)", "TypeError",
		"range(3)", "[0, 1, 2]", "range(0)", "[]", "range(-1)", "[]", "range("+least+")", "[]", "range(1)", "[0]", "range(True)", "TypeError", `range("3")`, "TypeError", "range(None)", "TypeError", "range([])", "TypeError",
		"input()", `"one"`, "[input(), input()]", `["one", "two"]`, "[input(), input(), input()]", "ValueError",
		"collect(0)", "None", "collect(1)", "None", "collect(2)", "ValueError", "collect(-1)", "ValueError", "collect(True)", "TypeError", "collect(None)", "TypeError", `collect("0")`, "TypeError",
		"id(1)", "TypeError", "id(None)", "TypeError", "id(True)", "TypeError", `id("a")`, "TypeError", "id(len)", "TypeError", "id(l)", "1", "id(d)", "1", "id(f)", "1", "[id(f), id(l), id(d), id(l), id(f)]", "[1, 2, 3, 2, 1]",
	)
	for name, takes := range map[string]int{"len": 1, "str": 1, "push": 2, "pop": 1, "keys": 1, "id": 1, "range": 1, "input": 0, "collect": 1} {
		for n := range 5 {
			if n != takes {
				is(t, "", name+"("+strings.TrimSuffix(strings.Repeat("[], ", n), ", ")+")", "TypeError")
			}
		}
		is(t, "", name, "<builtin "+name+">", name+" is "+name, "True")
	}
	is(t, "", "print", "<builtin print>")
}

// P45: what builtins do.
func TestBuiltinsDo(t *testing.T) {
	for _, d := range []does{
		{"print()\nprint(1)", "\n1", ""},
		{"print(1, \"a b\", [\"a\"], None)", "1 a b [\"a\"] None", ""},
		{"print(\"\", \"\")", " ", ""},
		{"print(\"a\\nb\\xff\")", "a\nb\xff", ""},
		{"print(print(1), 2)", "1\nNone 2", ""},
		{"l = [1]\nprint(push(l, l), len(l), pop(l) is l, l)", "None 2 True [1]", ""},
		{"d = {1: 2}\nk = keys(d)\npush(k, 3)\nk[0] = 5\nprint(k, d, keys(d), keys(d) is keys(d))", "[5, 3] {1: 2} [1] False", ""},
		{"a = range(3)\nb = range(3)\na[0] = 7\nprint(a, b)", "[7, 1, 2] [0, 1, 2]", ""},
		{"def f():\n  pass\ng = f\nl = [[], {}]\nprint(id(l[1]), id(f), id(l), id(g), id(l[0]), id(l[1]))", "1 2 3 2 4 1", ""},
		{"def mk():\n  return lambda: 1\nprint(id(mk()), id(mk()), id([]), id([]))", "1 2 3 4", ""},
		{"a = []\nprint(id(a))\ncollect(1)\npush(a, 1)\nprint(id(a), id({}))\ncollect(0)\nprint(id(a))", "1\n1 2\n1", ""},
		{"try:\n  id(1)\nexcept e:\n  print(e, id([]))", "TypeError 1", ""},
		{"print(input())\ntry:\n  print(input(), input())\nexcept e:\n  print(e)\ninput()", "one\nValueError", `"ValueError"`},
		{"try:\n  input(1)\nexcept e:\n  print(e, input())", "TypeError one", ""},
	} {
		d.check(t, "one", "two")
	}
}

// P46: repr.
func TestRepr(t *testing.T) {
	var bytes, want strings.Builder
	for b := range 256 {
		hex := "0" + strconv.FormatInt(int64(b), 16)
		bytes.WriteString(`\x` + hex[len(hex)-2:])
		switch {
		case b == '\n':
			want.WriteString(`\n`)
		case b == '"' || b == '\\':
			want.WriteString(`\` + string(rune(b)))
		case b >= 32 && b <= 126:
			want.WriteByte(byte(b))
		default:
			want.WriteString(`\x` + hex[len(hex)-2:])
		}
	}
	is(t, "", `"`+bytes.String()+`"`, `"`+want.String()+`"`)
	is(t, "def some_name(a):\n  pass",
		"None", "None", "True", "True", "False", "False", "0", "0", "-12", "-12", most, most, least, shown, "[]", "[]", "[1, [2, []]]", "[1, [2, []]]", "{}", "{}", `{"a": [1], 2: {None: "b"}}`, `{"a": [1], 2: {None: "b"}}`,
		"some_name", "<function some_name>", "lambda: 1", "<function lambda>", "[print, some_name]", "[<builtin print>, <function some_name>]", `"<a>"`, `"<a>"`,
	)
}

// P46: a repr that is too long, and when that is told.
func TestLongRepr(t *testing.T) {
	x := func(n int) string { return `"` + strings.Repeat("x", n) + `"` }
	is(t, "a = []\npush(a, a)\nb = "+x(1000)+"\nc = "+x(990),
		"len(str(["+x(1996)+"]))", "2000", "str(["+x(1997)+"])", "OverflowError", "str(["+x(1998)+"])", "OverflowError", "str(["+x(2000)+"])", "OverflowError", "len(str("+x(2000)+"))", "2000",
		"len(str([b, "+x(990)+"]))", "1998", "len(str([b, "+x(992)+"]))", "2000", "str([b, "+x(993)+"])", "OverflowError", "len(str({1: "+x(1993)+"}))", "2000", "str({1: "+x(1994)+"})", "OverflowError", "len(str({"+x(1993)+": 1}))", "2000", "str({"+x(1994)+": 1})", "OverflowError",
		"str([b, b, a])", "OverflowError", "str([b, a, b])", "RecursionError", "str([b, c, a])", "RecursionError", "str([b, "+x(994)+", a])", "RecursionError", "str([b, "+x(995)+", a])", "OverflowError", "str({1: b, 2: b, 3: a})", "OverflowError", "str({1: b, 2: a, 3: b})", "RecursionError",
		"str([b, [b, a]])", "RecursionError", "str([b, [b], a])", "OverflowError", "str({b: a})", "RecursionError", "str([[b, b], a])", "OverflowError", "str([a, [b, b]])", "RecursionError", "str([[b], [c]])", "OverflowError",
		"str(["+x(1999)+", a])", "OverflowError", "str(["+x(1998)+", a])", "RecursionError", "str({"+x(1997)+": a})", "RecursionError", "str({"+x(1999)+": a})", "OverflowError", "str([range(400), a])", "RecursionError", "str([range(900), a])", "OverflowError",
	)
	does{"print(1)\nprint(\"a\", range(600))", "1", `"OverflowError"`}.check(t)
	does{"raise range(600)", "", `"OverflowError"`}.check(t)
	does{"raise " + x(1999), "", `"OverflowError"`}.check(t)
	does{"raise " + x(1998), "", x(1998)}.check(t)
	does{"print(" + x(2000) + ")", strings.Repeat("x", 2000), ""}.check(t)
}
