package walk_test

import (
	"strings"
	"testing"

	"nurserypy/api"
)

const (
	most  = "9223372036854775807"
	least = "(-9223372036854775807 - 1)"
	shown = "-9223372036854775808"
)

// P42: and, or, not; what is true.
func TestTruth(t *testing.T) {
	for _, x := range []string{"None", "False", "0", `""`, "[]", "{}"} {
		is(t, "", x+" and 1 // 0", x, x+" or 7", "7", "not "+x, "True", "not not "+x, "False")
	}
	for _, x := range []string{"True", "1", "-1", `"0"`, `" "`, "[0]", "[[]]", "{0: 0}", "{None: None}", most} {
		is(t, "", x+" or 1 // 0", x, x+" and 7", "7", "not "+x, "False", "not not "+x, "True")
	}
	is(t, "f = lambda: 0", "f and 1", "1", "print and 2", "2", "not f", "False", "not len", "False")
	is(t, "", "0 or [] or None", "None", "1 and 2 and 3", "3", "1 and 0 or 5", "5", "0 and 1 // 0 or 6", "6", "not 1 == 2", "True")
	does{"if []:\n  print(1)\nelif \"\":\n  print(2)\nelse:\n  print(3)\nwhile {}:\n  print(4)", "3", ""}.check(t)
}

// P42: neg, +, -, *, //, % of ints.
func TestInts(t *testing.T) {
	is(t, "",
		"-5", "-5", "--5", "5", "-0", "0", "2 + 3 * 4", "14", "(2 + 3) * 4", "20", "2 - 3 - 4", "-5", "-2 * -3", "6", "0 * -1", "0",
		"7 // 2", "3", "-7 // 2", "-4", "7 // -2", "-4", "-7 // -2", "3", "6 // -2", "-3", "0 // -5", "0", "1 // 5", "0", "-1 // 5", "-1",
		"7 % 2", "1", "-7 % 2", "1", "7 % -2", "-1", "-7 % -2", "-1", "6 % -2", "0", "0 % -5", "0", "-1 % 5", "4", "1 % -5", "-4",
		"1 // 0", "ZeroDivisionError", "1 % 0", "ZeroDivisionError", "0 // 0", "ZeroDivisionError",
		most+" + 0", most, most+" + 1", "OverflowError", "1 + "+most, "OverflowError", least+" + 0", shown, least+" + -1", "OverflowError", least+" - 1", "OverflowError",
		"0 - "+least, "OverflowError", "-1 - "+least, most, most+" - -1", "OverflowError", least+" + "+most, "-1", most+" - "+most, "0", least+" - "+least, "0",
		"-"+most, "-"+most, "-"+least, "OverflowError", least, shown,
		"3037000500 * 3037000500", "OverflowError", "3037000499 * 3037000499", "9223372030926249001", "4611686018427387904 * 2", "OverflowError", "4611686018427387904 * -2", shown,
		"-4611686018427387904 * 2", shown, "-4611686018427387904 * -2", "OverflowError", least+" * -1", "OverflowError", "-1 * "+least, "OverflowError", least+" * 1", shown, least+" * 0", "0",
		"4294967296 * 4294967296", "OverflowError", "0 * "+most, "0", most+" * -1", "-"+most, least+" * 2", "OverflowError", "2 * "+least, "OverflowError",
		least+" // -1", "OverflowError", least+" % -1", "0", least+" // 1", shown, least+" // 2", "-4611686018427387904", least+" // "+most, "-2", least+" % "+most, "9223372036854775806",
		most+" // "+least, "-1", most+" % "+least, "-1", most+" // -1", "-"+most,
	)
}

// P42, P41: kinds that an operator has nothing for.
func TestOperatorKinds(t *testing.T) {
	values := map[string]string{"None": "n", "True": "b", "1": "i", `"a"`: "s", "[1]": "l", "{1: 2}": "d", "f": "f", "len": "u"}
	for x, k := range values {
		neg := "TypeError"
		if k == "i" {
			neg = "-1"
		}
		is(t, "f = lambda: 0", "-"+x, neg)
		for y, m := range values {
			for _, op := range []string{"-", "*", "//", "%", "+", "<", "<=", ">", ">="} {
				want := "TypeError"
				switch {
				case k == "i" && m == "i":
					want = map[string]string{"-": "0", "*": "1", "//": "1", "%": "0", "+": "2", "<": "False", "<=": "True", ">": "False", ">=": "True"}[op]
				case k == "s" && m == "s":
					want = map[string]string{"+": `"aa"`, "<": "False", "<=": "True", ">": "False", ">=": "True"}[op]
				case k == "l" && m == "l" && op == "+":
					want = "[1, 1]"
				}
				if want == "" {
					want = "TypeError"
				}
				is(t, "f = lambda: 0", x+" "+op+" "+y, want)
			}
			equal, same := "False", "False"
			if k == m {
				equal, same = "True", "True"
			}
			if k == "l" || k == "d" {
				same = "False" // each is made anew
			}
			is(t, "f = lambda: 0", x+" == "+y, equal, x+" is "+y, same)
		}
	}
	is(t, "", `"a" // 0`, "TypeError", "None % 0", "TypeError", "True + 1", "TypeError", "-True", "TypeError", "True < 2", "TypeError", `1 + 1 == "2"`, "False")
}

// P42: == and !=, is.
func TestEqual(t *testing.T) {
	is(t, "",
		"1 == 1", "True", "1 == 2", "False", "1 != 2", "True", "1 != 1", "False", "True == True", "True", "True == 1", "False", "False == 0", "False", "None == False", "False",
		`"a" == "a"`, "True", `"a" == "A"`, "False", `"\x80" == "\x80"`, "True", `"" == ""`, "True", `"" == None`, "False", `"1" == 1`, "False",
		"[] == []", "True", "[1, [2]] == [1, [2]]", "True", "[1] == [1, 2]", "False", "[1, 2] == [1]", "False", "[1] == [True]", "False", "[] == {}", "False", "[] != {}", "True",
		"{} == {}", "True", "{1: 2, 3: 4} == {3: 4, 1: 2}", "True", "{1: 2} == {1: 3}", "False", "{1: 2} == {True: 2}", "False", "{1: 2} == {2: 2}", "False", "{1: 2} == {1: 2, 3: 4}", "False",
		"{1: 2, 3: 4} == {1: 2}", "False", "{1: [2]} == {1: [2]}", "True", "{1: None} == {2: None}", "False", "len == len", "True", "len == str", "False", "len == \"len\"", "False",
		"(lambda: 1) == (lambda: 1)", "False",
	)
	is(t, "a = [1]\nb = a\nc = {}\nf = lambda: f\ng = len",
		"a is b", "True", "a is [1]", "False", "a == b", "True", "c is c", "True", "c is {}", "False", "f is f", "True", "f == f", "True", "f() is f", "True", "f is (lambda: f)", "False",
		"g is len", "True", "g == len", "True", "g != len", "False", "1 is 1", "True", `"a" is "a"`, "True", "None is None", "True", "1 is True", "False", "a is 1", "False", "1 is a", "False", "a is c", "False",
		most+" is "+most, "True", "c is None", "False", "f is g", "False", "[a, c] == [b, {}]", "True",
	)
}

// P42: < and the like.
func TestOrder(t *testing.T) {
	is(t, "",
		"1 < 2", "True", "2 < 1", "False", "1 < 1", "False", "1 <= 1", "True", "2 <= 1", "False", "2 > 1", "True", "1 > 1", "False", "1 >= 1", "True", "1 >= 2", "False",
		least+" < "+most, "True", "-1 < 0", "True", "-1 > -2", "True",
		`"a" < "b"`, "True", `"b" < "a"`, "False", `"a" < "ab"`, "True", `"" < "a"`, "True", `"a" <= "a"`, "True", `"B" < "a"`, "True", `"\x80" > "z"`, "True", `"\xff" < "\x00"`, "False", `"a" >= "aa"`, "False",
	)
}

// P42: in.
func TestIn(t *testing.T) {
	is(t, "f = lambda: 0",
		"1 in [2, 1]", "True", "1 in []", "False", "1 in [True, \"1\"]", "False", "[1] in [[1]]", "True", "[1] in [1]", "False", "None in [None]", "True", "f in [1, f]", "True", "{1: 2} in [{1: 2}]", "True",
		"1 in {1: 2}", "True", "2 in {1: 2}", "False", "True in {1: 2}", "False", "None in {None: 1}", "True", `"a" in {"a": 1}`, "True", "[] in {1: 2}", "TypeError", "{} in {}", "TypeError", "f in {}", "TypeError", "len in {1: 1}", "TypeError",
		`"b" in "abc"`, "True", `"bc" in "abc"`, "True", `"ac" in "abc"`, "False", `"" in ""`, "True", `"" in "a"`, "True", `"a" in ""`, "False", `1 in "1"`, "TypeError", `None in ""`, "TypeError", `["a"] in "a"`, "TypeError",
		"1 in 1", "TypeError", "1 in None", "TypeError", "1 in f", "TypeError", "1 in len", "TypeError", "True in True", "TypeError",
	)
}

// P42, P43: terms are worked out from left to right, all of them ahead of what is done.
func TestTermOrder(t *testing.T) {
	say := "def say(x):\n  print(x)\n  return x\n"
	for _, d := range []does{
		{say + "say(1) + say(2) * say(3)", "1\n2\n3", ""},
		{say + "say(None) + say(2)", "None\n2", `"TypeError"`},
		{say + "say(1) // say(0)", "1\n0", `"ZeroDivisionError"`},
		{say + "say(1) < say(None)", "1\nNone", `"TypeError"`},
		{say + "say(1) in say(2)", "1\n2", `"TypeError"`},
		{say + "say(1) is say(2)", "1\n2", ""},
		{say + "say(1) == say(2)", "1\n2", ""},
		{say + "say(0) and say(1) or say(2) or say(3)", "0\n2", ""},
		{say + "[say(1), say(2), [say(3)]]", "1\n2\n3", ""},
		{say + "{say(1): say(2), say([]): say(3), say(4): say(5)}", "1\n2\n[]\n3\n4\n5", `"TypeError"`},
		{say + "say([1])[say(5)]", "[1]\n5", `"IndexError"`},
		{say + "say(1)[say(2)]", "1\n2", `"TypeError"`},
		{say + "say([1])[say(7)] = say(3)", "[1]\n7\n3", `"IndexError"`},
		{say + "say(1)[say(7)] = say(3)", "1\n7\n3", `"TypeError"`},
		{say + "say({})[say([])] = say(3)", "{}\n[]\n3", `"TypeError"`},
		{say + "del say([1])[say(7)]", "[1]\n7", `"IndexError"`},
		{say + "say(1)(say(2), say(3))", "1\n2\n3", `"TypeError"`},
		{say + "say(len)(say(2), say(3))", "<builtin len>\n2\n3", `"TypeError"`},
		{say + "x(say(2))", "", `"NameError"`},
		{say + "-say(None)", "None", `"TypeError"`},
		{say + "print(say(1), say(2), 1 // 0)", "1\n2", `"ZeroDivisionError"`},
		{"l = [1]\ndef f():\n  push(l, 2)\n  return 1\nl[f()] = len(l)\nprint(l)", "[1, 2]", ""},
		{"l = [1, 2]\nl[-1] = pop(l)", "", ""},
		{"l = [1, 2]\nl[1] = pop(l)", "", `"IndexError"`},
	} {
		d.check(t)
	}
}

// P43: index.
func TestIndex(t *testing.T) {
	is(t, "l = [1, [2], \"c\"]\ns = \"a\\x00\\xff\"\nd = {1: \"int\", True: \"bool\", \"1\": \"str\", None: None}\nf = lambda: 0",
		"l[0]", "1", "l[2]", `"c"`, "l[-1]", `"c"`, "l[-3]", "1", "l[3]", "IndexError", "l[-4]", "IndexError", "l[1][0]", "2", "[][0]", "IndexError", "[][-1]", "IndexError", "l["+most+"]", "IndexError", "l["+least+"]", "IndexError",
		"s[0]", `"a"`, "s[1]", `"\x00"`, "s[-1]", `"\xff"`, "s[3]", "IndexError", "s[-4]", "IndexError", `""[0]`, "IndexError",
		"d[1]", `"int"`, "d[True]", `"bool"`, `d["1"]`, `"str"`, "d[None]", "None", "d[False]", "KeyError", "d[0]", "KeyError", `d[""]`, "KeyError", "{}[None]", "KeyError", "d[-1]", "KeyError",
		"l[True]", "TypeError", `l["0"]`, "TypeError", "l[None]", "TypeError", "s[False]", "TypeError", `s["a"]`, "TypeError", "d[[]]", "TypeError", "d[{}]", "TypeError", "d[f]", "TypeError", "d[len]", "TypeError",
		"1[0]", "TypeError", "None[0]", "TypeError", "True[0]", "TypeError", "f[0]", "TypeError", "len[0]", "TypeError",
	)
}

// P43: put and del.
func TestPut(t *testing.T) {
	for _, d := range []does{
		{"l = [1, 2, 3]\nl[0] = 4\nl[-1] = l\nprint(l[0], l[1], l[2] is l, len(l))", "4 2 True 3", ""},
		{"l = [1]\nl[1] = 2", "", `"IndexError"`},
		{"l = [1]\nl[-2] = 2", "", `"IndexError"`},
		{"l = [1]\nl[True] = 2", "", `"TypeError"`},
		{"l = [1]\nl[\"0\"] = 2", "", `"TypeError"`},
		{"s = \"abc\"\ns[0] = \"x\"", "", `"TypeError"`},
		{"None[0] = 1", "", `"TypeError"`},
		{"len[0] = 1", "", `"TypeError"`},
		{"1[0] = 1", "", `"TypeError"`},
		{"(lambda: 1)[0] = 1", "", `"TypeError"`},
		{"d = {}\nd[2] = 1\nd[True] = 2\nd[1] = 3\nd[2] = 4\nd[None] = 5\nd[\"\"] = d\nprint(keys(d), d[2], d[1], d[True], d[\"\"] is d)", "[2, True, 1, None, \"\"] 4 3 2 True", ""},
		{"d = {}\nd[[]] = 1", "", `"TypeError"`},
		{"d = {}\nd[d] = 1", "", `"TypeError"`},
		{"d = {}\nd[len] = 1", "", `"TypeError"`},
		{"d = {1: 2, 3: 4, 5: 6, 7: 8}\ndel d[3]\nd[9] = 0\nd[3] = 1\nd[5] = 7\ndel d[9]\nprint(d, d[7], len(d), 9 in d)", "{1: 2, 5: 7, 7: 8, 3: 1} 8 4 False", ""},
		{"d = {1: 2}\ndel d[2]", "", `"KeyError"`},
		{"d = {1: 2}\ndel d[True]", "", `"KeyError"`},
		{"d = {1: 2}\ndel d[[]]", "", `"TypeError"`},
		{"l = [1, 2, 3, 4]\ndel l[1]\ndel l[-1]\nprint(l, len(l))\ndel l[0]\ndel l[0]\nprint(l)\ndel l[0]", "[1, 3] 2\n[]", `"IndexError"`},
		{"l = [1]\ndel l[True]", "", `"TypeError"`},
		{"l = [1]\ndel l[-2]", "", `"IndexError"`},
		{"s = \"abc\"\ndel s[0]", "", `"TypeError"`},
		{"del None[0]", "", `"TypeError"`},
		{"del 5[0]", "", `"TypeError"`},
		{"del len[0]", "", `"TypeError"`},
		{"del (lambda: 1)[0]", "", `"TypeError"`},
	} {
		d.check(t)
	}
}

// P43: dicts and lists that are written out; + makes a new list.
func TestMade(t *testing.T) {
	is(t, "",
		"{1: 2, 3: 4, 1: 5}", "{1: 5, 3: 4}", "{1: 2, True: 3, \"1\": 4}", `{1: 2, True: 3, "1": 4}`, "{False: 1, 0: 2, None: 3}", "{False: 1, 0: 2, None: 3}",
		"{[]: 1}", "TypeError", "{1: 1, {}: 1 // 0}", "ZeroDivisionError", "{len: 1}", "TypeError", "{lambda: 1: 1}", "TypeError", "{}", "{}", "[]", "[]",
	)
	for _, d := range []does{
		{"a = [1]\nb = [2]\nc = a + b\npush(a, 3)\nb[0] = 4\nc[0] = 5\nprint(a, b, c)", "[1, 3] [4] [5, 2]", ""},
		{"a = [1]\nb = a + []\npush(b, 2)\nprint(a, b, a is a + [], [] + [])", "[1] [1, 2] False []", ""},
		{"a = []\nb = [a, a]\npush(a, 1)\nprint(b)", "[[1], [1]]", ""},
		{"def f():\n  return []\na = f()\npush(a, 1)\nprint(f(), a)", "[] [1]", ""},
		{"a = {}\nb = a\nb[1] = 2\nprint(a, a is b)", "{1: 2} True", ""},
		{"l = []\nfor i in range(3):\n  push(l, {})\nl[0][1] = 1\nprint(l)", "[{1: 1}, {}, {}]", ""},
	} {
		d.check(t)
	}
}

// P41: what is too long.
func TestTooLong(t *testing.T) {
	if api.MaxLength != 2000 || api.MaxOutput != 20000 {
		t.Fatal("the programs below are for other bounds")
	}
	long := strings.Repeat("x", api.MaxLength)
	is(t, "s = \"1\"\nfor i in range(10):\n  s = s + s\nm = range(1000)",
		"len(s + s)", "OverflowError", "len(s)", "1024", `len("`+long+`")`, "2000", `len("`+long+`x")`, "OverflowError", `"" + "`+long+`" == "`+long+`"`, "True", `"x" + "`+long+`"`, "OverflowError", `"`+long+`" + ""  == ""`, "False",
		"len(m + m)", "2000", "len(m + m + [1])", "OverflowError", "len([1] + (m + m))", "OverflowError", "len(range(2000))", "2000", "range(2001)", "OverflowError", "range("+most+")", "OverflowError",
	)
	for _, d := range []does{
		{"l = range(1999)\npush(l, 1)\ntry:\n  push(l, 2)\nexcept e:\n  print(e, len(l), l[-1])\npop(l)\npush(l, 3)\nprint(l[-1])", "OverflowError 2000 1\n3", ""},
		{"d = {}\nfor i in range(2000):\n  d[i] = i\nd[7] = 8\ntry:\n  d[2000] = 1\nexcept e:\n  print(e, len(d), d[7], 2000 in d)\ndel d[0]\nd[None] = 1\nprint(len(d), keys(d)[-1], len(keys(d)))", "OverflowError 2000 8 False\n2000 None 2000", ""},
		{"d = {}\nfor i in range(2000):\n  d[i] = i\nd[[]] = 1", "", `"TypeError"`},
	} {
		d.check(t)
	}
	line := strings.Repeat("x", 999)
	s := "s = \"" + line + "\"\nfor i in range(19):\n  print(s)\nprint(s, \"\")\n"
	if o := run(t, s, enough); o.Kind != "raised" || o.Value != `"OverflowError"` || o.Output != strings.Repeat(line+"\n", 19) {
		t.Error(o)
	}
	s = "s = \"" + line + "\"\nfor i in range(20):\n  print(s)\ntry:\n  print()\nexcept e:\n  raise [e]\n"
	if o := run(t, s, enough); o.Kind != "raised" || o.Value != `["OverflowError"]` || o.Output != strings.Repeat(line+"\n", 20) {
		t.Error(o)
	}
	if o := run(t, "s = \""+long+"\"\nprint(s, s)\n", enough); o.Kind != "done" || len(o.Output) != 4002 {
		t.Error(o)
	}
}

// P41: what is too deep, told and compared.
func TestTooDeep(t *testing.T) {
	if api.MaxNest != 20 || api.MaxCalls != 60 {
		t.Fatal("the programs below are for other bounds")
	}
	ahead := lines("def deep(n, inner):", "  for i in range(n):", "    inner = [inner]", "  return inner", "def deeper(n, inner):", "  for i in range(n):", "    inner = {1: inner}", "  return inner", "l = []", "push(l, l)", "d = {}", "d[0] = d", "x = deep(10, 1)", "y = deep(10, 1)")
	twenty := strings.Repeat("[", 20) + "1" + strings.Repeat("]", 20)
	is(t, ahead,
		"str(deep(20, 1))", `"`+twenty+`"`, "str(deep(21, 1))", "RecursionError", "str(deep(19, []))", `"`+strings.Replace(twenty, "1", "", 1)+`"`, "str(deep(20, []))", "RecursionError", "str(deep(20, {}))", "RecursionError",
		"len(str(deeper(20, 1)))", "101", "str(deeper(21, 1))", "RecursionError", "str(deeper(10, deep(10, 1))) == \"\"", "False", "str(deeper(10, deep(11, 1)))", "RecursionError", "str(l)", "RecursionError", "str(d)", "RecursionError",
		"deep(20, 1) == deep(20, 1)", "True", "deep(21, 1) == deep(21, 1)", "RecursionError", "deep(20, 1) != deep(20, 2)", "True", "deep(21, 1) != deep(21, 2)", "RecursionError", "deeper(20, 1) == deeper(20, 1)", "True", "deeper(21, 1) == deeper(21, 1)", "RecursionError",
		"deep(20, []) == deep(20, [])", "RecursionError", "deep(20, []) == deep(20, [1])", "RecursionError", "deep(20, []) == deep(20, {})", "False", "deep(20, []) == deep(20, 1)", "False", "deep(20, {}) == deep(20, {})", "RecursionError", "deep(19, []) == deep(19, [1])", "False",
		"l == l", "RecursionError", "l is l", "True", "l == [l]", "RecursionError", "l == [1]", "False", "l == []", "False", "d == d", "RecursionError", "d is d", "True", "d == {0: 1}", "False", "d == {}", "False", "l == d", "False", "l != d", "True",
		"[1, l] == [2, l]", "False", "[l, 1] == [l, 2]", "RecursionError", "[l, 1] == [l]", "False", "{1: l, 2: 3} == {1: l}", "False", "{0: 1, 1: l} == {0: 2, 1: l}", "False", "{1: l, 0: 1} == {1: l, 0: 2}", "RecursionError", "{0: 1, 1: l} == {1: l, 2: 1}", "False",
		"deep(20, 1) in [1, deep(20, 1)]", "True", "deep(21, 1) in [1, deep(21, 1)]", "RecursionError", "l in l", "RecursionError", "1 in l", "False", "l in [1, 2]", "False", "d in [1, d]", "RecursionError", "l in d", "TypeError",
		"[x, deep(9, x)] == [y, deep(9, y)]", "True", "[x, deep(10, x)] == [y, deep(10, y)]", "RecursionError", "[deep(9, x), x] == [deep(9, y), y]", "True", "{1: x, 2: deep(10, x)} == {1: y, 2: deep(10, y)}", "RecursionError",
		"len(l)", "1", "l[0][0][0] is l", "True", "len(l + l)", "2", "not l", "False",
	)
	does{ahead + "\nprint(\"a\")\nprint(\"b\", l)", "a", `"RecursionError"`}.check(t)
	does{ahead + "\nraise l", "", `"RecursionError"`}.check(t)
	does{ahead + "\ntry:\n  raise l\nexcept e:\n  print(e is l)", "True", ""}.check(t)
}
