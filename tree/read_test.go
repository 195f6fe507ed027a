package tree_test

import (
	"slices"
	"strings"
	"sync"
	"testing"

	"nurserypy/api"
	"nurserypy/lex"
	"nurserypy/tree"
)

var a, b, c, d = name("a"), name("b"), name("c"), name("d")

var sided = strings.Fields("and or + - * // % == != < <= > >= is in")

// P20: each Op, with its fields, and no others.
func TestTerms(t *testing.T) {
	for s, want := range map[string]tree.Expr{
		"0":                        num(0),
		"12":                       num(12),
		"9223372036854775807":      num(1<<63 - 1),
		`""`:                       str(""),
		`"a\n\x00\""`:              str("a\n\x00\""),
		`"None"`:                   str("None"),
		"None":                     plain("None"),
		"True":                     plain("True"),
		"False":                    plain("False"),
		"a":                        a,
		"_x1":                      name("_x1"),
		"-a":                       term("neg", a),
		"-1":                       term("neg", num(1)),
		"not a":                    term("not", a),
		"f()":                      term("call", name("f")),
		"f(a)":                     term("call", name("f"), a),
		"f(a, 1, b)":               term("call", name("f"), a, num(1), b),
		"a[b]":                     term("index", a, b),
		"[]":                       term("list"),
		"[a]":                      term("list", a),
		"[a, b, a]":                term("list", a, b, a),
		"{}":                       term("dict"),
		"{a: 1}":                   term("dict", a, num(1)),
		"{a: 1, b: 2, a: 1}":       term("dict", a, num(1), b, num(2), a, num(1)),
		"lambda: 0":                lambda(num(0)),
		"lambda a: b":              lambda(b, "a"),
		"lambda a, b, a: None":     lambda(plain("None"), "a", "b", "a"),
		"(a)":                      a,
		"((((a))))":                a,
		"1(2)[3]":                  term("index", term("call", num(1), num(2)), num(3)),
		`"a"[None]()`:              term("call", term("index", str("a"), plain("None"))),
		"None[0]":                  term("index", plain("None"), num(0)),
		"[a][0]":                   term("index", term("list", a), num(0)),
		"{}[a](b)":                 term("call", term("index", term("dict"), a), b),
		"[[]]":                     term("list", term("list")),
		"f(g(a), [b])":             term("call", name("f"), term("call", name("g"), a), term("list", b)),
		"{lambda: a: lambda b: c}": term("dict", lambda(a), lambda(c, "b")),
	} {
		reads(t, s, stmt("expr", want))
		reads(t, s+"\n", stmt("expr", want))
		reads(t, "("+s+") # x", stmt("expr", want))
		reads(t, "a[("+s+")]=("+s+")", stmt("put", a, want, want))
	}
	for _, op := range sided {
		reads(t, "a "+op+" b", stmt("expr", term(op, a, b)))
	}
}

// P21, P22: each Kind, with its fields, and no others.
func TestStatements(t *testing.T) {
	pass, leave := stmt("pass"), stmt("break")
	for s, want := range map[string]tree.Stmt{
		"a":                                  {Kind: "expr", L: []tree.Expr{a}},
		"a = b":                              {Kind: "set", Name: "a", L: []tree.Expr{b}},
		"a[b] = c":                           {Kind: "put", L: []tree.Expr{a, b, c}},
		"a[b][c] = d":                        {Kind: "put", L: []tree.Expr{term("index", a, b), c, d}},
		"f(a)[b] = c":                        {Kind: "put", L: []tree.Expr{term("call", name("f"), a), b, c}},
		"(a[b]) = c":                         {Kind: "put", L: []tree.Expr{a, b, c}},
		"(a + b)[c] = d":                     {Kind: "put", L: []tree.Expr{term("+", a, b), c, d}},
		"del a[b]":                           {Kind: "del", L: []tree.Expr{a, b}},
		"del a[b][c]":                        {Kind: "del", L: []tree.Expr{term("index", a, b), c}},
		"del ((a[b]))":                       {Kind: "del", L: []tree.Expr{a, b}},
		"return":                             {Kind: "return"},
		"return a":                           {Kind: "return", L: []tree.Expr{a}},
		"return None":                        {Kind: "return", L: []tree.Expr{plain("None")}},
		"raise a":                            {Kind: "raise", L: []tree.Expr{a}},
		"break":                              {Kind: "break"},
		"continue":                           {Kind: "continue"},
		"pass":                               {Kind: "pass"},
		"global a":                           {Kind: "global", P: []string{"a"}},
		"global a, b, a":                     {Kind: "global", P: []string{"a", "b", "a"}},
		"nonlocal a":                         {Kind: "nonlocal", P: []string{"a"}},
		"nonlocal b, a":                      {Kind: "nonlocal", P: []string{"b", "a"}},
		"if a:\n pass":                       {Kind: "if", L: []tree.Expr{a}, Body: block(pass)},
		"while a:\n pass":                    {Kind: "while", L: []tree.Expr{a}, Body: block(pass)},
		"for a in b:\n b":                    {Kind: "for", Name: "a", L: []tree.Expr{b}, Body: block(stmt("expr", b))},
		"def f():\n pass":                    {Kind: "def", Name: "f", Body: block(pass)},
		"def f(a):\n pass":                   {Kind: "def", Name: "f", P: []string{"a"}, Body: block(pass)},
		"def f(a, b, a):\n pass\n break":     {Kind: "def", Name: "f", P: []string{"a", "b", "a"}, Body: block(pass, leave)},
		"if a:\n pass\nelse:\n break":        {Kind: "if", L: []tree.Expr{a}, Body: block(pass), Else: block(leave)},
		"try:\n pass\nexcept a:\n break":     {Kind: "try", Name: "a", Body: block(pass), Else: block(leave)},
		"try:\n a\n b\nexcept c:\n d\n pass": {Kind: "try", Name: "c", Body: block(stmt("expr", a), stmt("expr", b)), Else: block(stmt("expr", d), pass)},
		"for a in b in c:\n pass":            {Kind: "for", Name: "a", L: []tree.Expr{term("in", b, c)}, Body: block(pass)},
		"while lambda: a:\n pass":            {Kind: "while", L: []tree.Expr{lambda(a)}, Body: block(pass)},
		"if a:\n  pass\n\n # b\n  break\n\nelse: # c\n  d": {Kind: "if", L: []tree.Expr{a}, Body: block(pass, leave), Else: block(stmt("expr", d))},
	} {
		reads(t, s, want)
		reads(t, "\n"+s+"\n\npass\n", want, pass)
		reads(t, "while b:\n"+"   "+strings.ReplaceAll(s, "\n", "\n   ")+"\nbreak", tree.Stmt{Kind: "while", L: []tree.Expr{b}, Body: block(want)}, leave)
	}
	reads(t, "")
	reads(t, "\n # a\n  \n")
}

// P22: an `elif` is an `if` alone in the Else; an else belongs to the last.
func TestElif(t *testing.T) {
	pass, leave := block(stmt("pass")), block(stmt("break"))
	choice := func(e tree.Expr, body, or []tree.Stmt) tree.Stmt {
		return tree.Stmt{Kind: "if", L: []tree.Expr{e}, Body: body, Else: or}
	}
	two := choice(a, pass, block(choice(b, leave, nil)))
	reads(t, "if a:\n pass\nelif b:\n break\n", two)
	reads(t, "if a:\n pass\nelse:\n if b:\n  break\n", two)
	three := choice(a, pass, block(choice(b, leave, block(choice(c, pass, leave)))))
	reads(t, "if a:\n pass\nelif b:\n break\nelif c:\n pass\nelse:\n break\n", three)
	reads(t, "if a:\n pass\nelif b:\n break\nelse:\n if c:\n  pass\n else:\n  break\n", three)
	reads(t, "if a:\n if b:\n  break\n elif c:\n  pass\nelse:\n break\n", choice(a, block(choice(b, leave, block(choice(c, pass, nil)))), leave))
	reads(t, "if a:\n if b:\n  break\nelif c:\n pass\n", choice(a, block(choice(b, leave, nil)), block(choice(c, pass, nil))))
}

// P22: how tight each op is, and how they are grouped.
func TestRanks(t *testing.T) {
	rows := [][]string{{"or"}, {"and"}, {"==", "!=", "<", "<=", ">", ">=", "is", "in"}, {"+", "-"}, {"*", "//", "%"}}
	for i, row := range rows {
		for _, x := range row {
			for j, other := range rows {
				for _, y := range other {
					if i == j && i == 2 {
						faults(t, "a "+x+" b "+y+" c", len("a "+x+" b "), api.ErrText)
						continue
					}
					want := term(y, term(x, a, b), c)
					if j > i {
						want = term(x, a, term(y, b, c))
					}
					reads(t, "a "+x+" b "+y+" c", stmt("expr", want))
				}
			}
			reads(t, "a "+x+" -b", stmt("expr", term(x, a, term("neg", b))))
			reads(t, "-a "+x+" b", stmt("expr", term(x, term("neg", a), b)))
			reads(t, "a "+x+" b(c)", stmt("expr", term(x, a, term("call", b, c))))
			if i < 2 {
				reads(t, "not a "+x+" not b", stmt("expr", term(x, term("not", a), term("not", b))))
			} else {
				reads(t, "not a "+x+" b", stmt("expr", term("not", term(x, a, b))))
				faults(t, "a "+x+" not b", len("a "+x+" "), api.ErrText)
			}
			reads(t, "lambda: a "+x+" b", stmt("expr", lambda(term(x, a, b))))
			faults(t, "a "+x+" lambda: b", len("a "+x+" "), api.ErrText)
		}
	}
	reads(t, "--a", stmt("expr", term("neg", term("neg", a))))
	reads(t, "not not a", stmt("expr", term("not", term("not", a))))
	reads(t, "not -a", stmt("expr", term("not", term("neg", a))))
	faults(t, "-not a", 1, api.ErrText)
	faults(t, "-lambda: a", 1, api.ErrText)
	faults(t, "not lambda: a", 4, api.ErrText)
	reads(t, "-a[b]", stmt("expr", term("neg", term("index", a, b))))
	reads(t, "lambda: lambda: a", stmt("expr", lambda(lambda(a))))
	reads(t, "a(b)(c)[d]", stmt("expr", term("index", term("call", term("call", a, b), c), d)))
}

// P23: the first token that cannot stand there.
func TestTextFaults(t *testing.T) {
	for s, at := range map[string]int{
		"a = ": 4, "= a": 0, "a =\n": 3, "a = b = c": 6, "a[b] = c = d": 9, "a == = b": 5, "a = b c": 6,
		"a + b = c": 6, "-a = b": 3, "not a[b] = c": 9, "lambda: a = b": 10, "lambda: a[b] = c": 13, "[a] = b": 4, "1 = a": 2, "None = a": 5, `"a" = b`: 4, "f() = a": 4, "((a)) = b": 6, "a or b[c] = d": 10,
		"del": 3, "del\n": 3, "del 1\n": 5, "del (a)\n": 7, "del a + b[c]\n": 12, "del a b": 6, "del a = b": 6, "del a[b] = c": 9, "del a[b], c": 8, "del f()\n": 7, "del -a[b]": 9, "del = a": 4, "del del a[b]": 4,
		"a[]": 2, "a[b, c]": 3, "a[b": 3, "a[b)": 3, "a[b:c]": 3, "a[b]]": 4,
		"f(": 2, "f(a": 3, "f(a,": 4, "f(a b)": 4, "f(,)": 2, "f(a,)": 4, "f(a,,b)": 4, "f(a=b)": 3, "f(a]": 3, "f)": 1,
		"[a,]": 3, "[,]": 1, "[a": 2, "[a b]": 3, "[a:b]": 2, "[": 1, "]": 0, "[a}": 2,
		"{a}": 2, "{a:}": 3, "{a: b,}": 6, "{,}": 1, "{a, b}": 2, "{a: b c}": 6, "{a: b: c}": 5, "{": 1, "}": 0, "{:}": 1,
		"()": 1, "(a": 2, "(a, b)": 2, "(a]": 2, ")": 0, "(a))": 3, "(": 1, "(a\n)": 2, "[a,\nb]": 3,
		"a.b": 1, ".a": 0, "a .": 2, "1.5": 1, "a:": 1, "a: b": 1, "a,": 1, "a, b = c": 1, "a b": 2, "a 1": 2, `a "b"`: 2, "1a": 1, ",": 0, ":": 0,
		"a +": 3, "+a": 0, "a + + b": 4, "a * / b": 4, "a ** b": 3, "a not in b": 2, "a is not b": 5, "a and": 5, "and a": 0, "or": 0, "not": 3, "not\n": 3, "a or or b": 5, "a < b < c": 6, "a in b in c": 7, "a == b is c": 7, "-": 1, "- ": 2, "a -": 3, "in a": 0, "is": 0, "a += b": 3, "a != = b": 5, "a <> b": 3,
		"lambda": 6, "lambda a": 8, "lambda a,: b": 9, "lambda , a: b": 7, "lambda 1: a": 7, "lambda (a): b": 7, "lambda a b: c": 9, "lambda:": 7, "lambda: \n": 8, "lambda None: a": 7, "lambda: return": 8,
		"if": 2, "if:": 2, "if a": 4, "if a\n b": 4, "if a: b": 6, "if a:\n": 6, "if a:\nb": 6, "if a:": 5, "if a = b:\n c": 5, "if a:\n b\n  c": 11, "if a:\n b\nelse": 13, "if a:\n b\nelse c:\n d": 14, "if a:\n b\nelse:\nc": 15, "if a:\n b\nelse:\n c\nelse:\n d": 18, "if a:\n b\nelse:\n c\nelif d:\n a": 18, "if a:\n b\nelif:\n c": 13, "if a:\n b\nelif c: d": 17, "if a:\n b\nc\nelse:\n d": 11, "if a:\n b\n else:\n  c": 10, "if a:\n b\nelif c:\n d\nexcept e:\n a": 20, "else:\n a": 0, "elif a:\n b": 0, "if a:\n pass pass": 12,
		"while": 5, "while:\n a": 5, "while a\n": 7, "while a:\n b\nelse:\n c": 12, "while a:\nb": 9, "while a: b": 9,
		"for": 3, "for a": 5, "for a b": 6, "for 1 in a:\n b": 4, "for a in:\n b": 8, "for a, b in c:\n d": 5, "for a[b] in c:\n d": 5, "for (a) in b:\n c": 4, "for a in b": 10, "for a in b, c:\n d": 10, "for if in b:\n c": 4, "for a in b:\n c\nelse:\n d": 15,
		"def": 3, "def 1():\n a": 4, "def f:\n a": 5, "def f(a,):\n b": 8, "def f(,):\n b": 6, "def f(1):\n b": 6, "def f(a b):\n c": 8, "def f((a)):\n b": 6, "def f(a = b):\n c": 8, "def f(a)\n b": 8, "def f(a): b": 10, "def f():\na": 9, "def f(None):\n a": 6, "def f(*a):\n b": 6, "def if():\n a": 4, "def f(a\n": 7, "f = def": 4,
		"try": 3, "try a:\n b": 4, "try:\n a": 7, "try:\n a\n": 8, "try:\n a\nb": 8, "try:\n a\nexcept:\n b": 14, "try:\n a\nexcept 1:\n b": 15, "try:\n a\nexcept b": 16, "try:\n a\nexcept b, c:\n d": 16, "try:\n a\nexcept b:\nc": 18, "try:\n a\nexcept b:\n c\nexcept d:\n a": 21, "try:\n a\nelse:\n b": 8, "try: a": 5, "try:\na": 5, "try:\n a\nexcept b:\n c\nelse:\n d": 21, "except a:\n b": 0, "try:\n a\n except b:\n  c": 9,
		"return return": 7, "return a b": 9, "return = a": 7, "return,": 6, "raise": 5, "raise\n": 5, "raise a b": 8, "raise raise": 6, "break a": 6, "continue 1": 9, "pass pass": 5, "pass = a": 5,
		"global": 6, "global\n": 6, "global 1": 7, "global a b": 9, "global a,": 9, "global a = b": 9, "global (a)": 7, "global a, 1": 10, "nonlocal": 8, "nonlocal a,,b": 11, "nonlocal None": 9, "nonlocal a[b]": 10,
		"  a": 2, "a\n  b": 4, "a\n  b\nc": 4, " if a:\n  b": 1, "pass\n pass": 6, "a = if": 4, "a = pass": 4, "a = (b": 6, "a = b)": 5, "a\nb\nc d": 6, "a = {\n}": 5,
	} {
		faults(t, s, at, api.ErrText)
	}
}

// P23: what Lex refuses is told as Lex tells it, ahead of all else.
func TestWordFaults(t *testing.T) {
	for _, s := range []string{"a b ?", ")\n  a\n b", "x = 01", "((((((((((((((((( \"", "if a:\nb\nA", strings.Repeat(")", api.MaxSource+1), strings.Repeat(" ", api.MaxSource+1)} {
		_, want := lex.Lex(s)
		l, err := tree.Read(s)
		if want == nil || len(l) != 0 {
			t.Fatalf("%q: %v, %s", s, want, tell(l))
		}
		if want == api.ErrBound {
			if err != want {
				t.Errorf("%d bytes: %v", len(s), err)
			}
			continue
		}
		faults(t, s, want.(*api.Fault).At, api.ErrText)
	}
}

// nested has so many blocks in each other, the program itself the first, and a statement in the last.
func nested(heads []string, n int, last string) (s string, at int) {
	for i := range n - 1 {
		s += strings.Repeat(" ", i) + heads[i%len(heads)] + "\n"
	}
	s += strings.Repeat(" ", n-1)
	return s + last + "\n", len(s)
}

// P23: blocks in each other, at most MaxDeep, the program the first.
func TestBlocksDeep(t *testing.T) {
	for _, heads := range [][]string{{"if a:"}, {"while a:"}, {"for a in b:"}, {"def a():"}, {"if a:", "def f(b, c):", "while a:", "for a in b:"}} {
		s, _ := nested(heads, api.MaxDeep, "b")
		if _, err := tree.Read(s); err != nil {
			t.Errorf("%q: %v", s, err)
		}
		s, at := nested(heads, api.MaxDeep+1, "b")
		faults(t, s, at, api.ErrBound)
		s, at = nested(heads, api.MaxDeep+1, ") (")
		faults(t, s, at, api.ErrBound)
		s, at = nested(heads, api.MaxDeep, "a b")
		faults(t, s, at+2, api.ErrText)
		s, at = nested(heads, api.MaxDeep, "if a:")
		faults(t, s, at+6, api.ErrText)
		s, at = nested(heads, api.MaxDeep, "if a: b")
		faults(t, s, at+6, api.ErrText)
	}
	in := strings.Repeat(" ", api.MaxDeep-1)
	s, at := nested([]string{"if a:"}, api.MaxDeep, "try:")
	faults(t, s+in+" a\n"+in+"except b:\n", at+len("try:\n"+in+" "), api.ErrBound)
	s, _ = nested([]string{"if a:"}, api.MaxDeep, "b")
	short := in[1:]
	for _, more := range []string{"else:\n" + in + "c\n", "elif b:\n" + in + "c\n", strings.Repeat("elif b:\n"+in+"c\n"+short, 40) + "else:\n" + in + "d\n"} {
		if _, err := tree.Read(s + short + more); err != nil {
			t.Errorf("%q: %v", s+short+more, err)
		}
	}
	faults(t, s+short+"else:\n"+in+"if c:\n"+in+" d\n", len(s+short+"else:\n"+in+"if c:\n"+in+" "), api.ErrBound)
	reads(t, "if a:\n b\n"+"if a:\n b\n", tree.Stmt{Kind: "if", L: []tree.Expr{a}, Body: block(stmt("expr", b))}, tree.Stmt{Kind: "if", L: []tree.Expr{a}, Body: block(stmt("expr", b))})
}

// A way to go deeper: its text, where in that its first mark stands, what closes it.
type way struct {
	open  string
	mark  int
	close string
}

// Behind a `-` or a `not` just the tight ones stay within it.
var tight = []way{
	{"-", 0, ""}, {"(", 0, ")"}, {"[", 0, "]"}, {"[a, ", 0, "]"}, {"{", 0, ": 1}"}, {"{a: ", 0, "}"}, {"{a: b, c: ", 0, "}"},
	{"f(", 1, ")"}, {"f(a, ", 1, ")"}, {"a[", 1, "]"}, {"f()(", 1, ")"}, {"a[b][", 1, "]"}, {"[](", 0, ")"}, {"(a)[", 0, "]"},
}

var loose = []way{
	{"not ", 0, ""}, {"lambda: ", 0, ""}, {"lambda a, b: ", 0, ""}, {"a or not ", 5, ""}, {"(a) and not ", 0, ""}, {"a + -", 4, ""}, {"a - b * (", 8, ")"}, {"-a == [", 0, "]"}, {"not a and (", 0, ")"},
}

// P23: marks that go deeper, in each other: at most MaxDeep in one term.
func TestTermsDeep(t *testing.T) {
	all := append(slices.Clone(tight), loose...)
	next := uint32(1)
	for range 2000 {
		s, tail, last, choice := "", "", 0, all
		for range api.MaxDeep + 1 {
			next = next*1664525 + 1013904223
			w := choice[int(next>>16)%len(choice)]
			last = len(s) + w.mark
			s, tail = s+w.open, w.close+tail
			choice = all
			if w.close == "" && w.open[0] != 'l' {
				choice = tight
			}
		}
		checkDeep(t, s, tail, last)
	}
	for _, w := range all {
		if w.close != "" || w.mark == 0 && w.open[0] != '(' { // the others do not stand in each other
			n := api.MaxDeep
			checkDeep(t, strings.Repeat(w.open, n+1), strings.Repeat(w.close, n+1), n*len(w.open)+w.mark)
		}
	}
	checkDeep(t, strings.Repeat("[", api.MaxDeep-1)+"{lambda: ", ": 1}", api.MaxDeep)
	checkDeep(t, strings.Repeat("f(", api.MaxDeep-1)+"a[(b", ")]", 2*api.MaxDeep)
}

// checkDeep is given a term with one mark too many, the last of them there.
func checkDeep(t *testing.T, s, tail string, last int) {
	t.Helper()
	for _, ahead := range []string{"", "a = ", "return ", "del ", "if ", "a[b] = ", "for a in "} {
		faults(t, ahead+s+"1"+tail, len(ahead)+last, api.ErrBound)
		faults(t, ahead+s, len(ahead)+last, api.ErrBound)
	}
}

// P23: as many as may be are read, in each term of a statement anew.
func TestTermsNotTooDeep(t *testing.T) {
	n := api.MaxDeep
	most := map[string]string{
		strings.Repeat("-", n):        "",
		strings.Repeat("not ", n):     "",
		strings.Repeat("lambda: ", n): "",
		strings.Repeat("(", n):        strings.Repeat(")", n),
		strings.Repeat("[", n):        strings.Repeat("]", n),
		strings.Repeat("{1: ", n):     strings.Repeat("}", n),
		strings.Repeat("f(", n):       strings.Repeat(")", n),
		strings.Repeat("a[", n):       strings.Repeat("]", n),
		"lambda: not -f(a[{[(----":    ")]: 1}])",
	}
	for open, closing := range most {
		s := open + "a" + closing
		rest := ""
		if !strings.HasPrefix(s, "not") && !strings.HasPrefix(s, "lambda") {
			rest = " + "
		} else {
			rest = "\n"
		}
		for _, p := range []string{s, "a = " + s, "if " + s + ":\n " + s, s + rest + s, "f(1)[2] = " + s, "((((a))))[-1] = " + s, "def f(a):\n return " + s, "while " + s + ":\n for a in " + s + ":\n  " + s} {
			if _, err := tree.Read(p); err != nil {
				t.Errorf("%q: %v", p, err)
			}
		}
	}
	for _, s := range []string{strings.Repeat("-a + ", 100) + "b", "f" + strings.Repeat("()", 100), "a" + strings.Repeat("[(-b)]", 100), "f(" + strings.Repeat("(a), ", 100) + "b)", strings.Repeat("not a and ", 100) + "b", strings.Repeat("a * ", 1000) + "b", "[" + strings.Repeat("{}, ", 500) + "[]]"} {
		if _, err := tree.Read(s); err != nil {
			t.Errorf("%q: %v", s, err)
		}
	}
	faults(t, strings.Repeat("(", n)+")", n, api.ErrText)
	faults(t, strings.Repeat("(", n)+"a + not b", n+4, api.ErrText)
	faults(t, strings.Repeat("-", n)+"not a", n, api.ErrText)
	faults(t, "a b "+strings.Repeat("(", n+1), 2, api.ErrText)
	faults(t, strings.Repeat("(", n+1)+") a", n, api.ErrBound)
}

// P2, P4: answers are alike, whoever works beside, and no two of their lists share memory.
func TestReadAnswersAreTheirOwn(t *testing.T) {
	const s = "def f(a, b):\n global c, d\n x = [f(a, 1), {b: -a}][0]\n if a:\n  pass\n elif b:\n  del a[0]\n else:\n  a[b] = lambda c, d: c + d * a\n"
	first, err := tree.Read(s)
	if err != nil {
		t.Fatal(err)
	}
	want := tell(first)
	var work sync.WaitGroup
	for range 8 {
		work.Go(func() {
			l, err := tree.Read(s)
			if err != nil || tell(l) != want {
				t.Errorf("%s, %v", tell(l), err)
			}
			spoil(l)
		})
	}
	work.Wait()
	if tell(first) != want {
		t.Errorf("changed: %s", tell(first))
	}
	grow(t, first)
}

// spoil writes into everything.
func spoil(l []tree.Stmt) {
	for i := range l {
		spoilTerms(l[i].L)
		for j := range l[i].P {
			l[i].P[j] = "spoilt"
		}
		spoil(l[i].Body)
		spoil(l[i].Else)
		l[i] = tree.Stmt{Kind: "spoilt"}
	}
}

func spoilTerms(l []tree.Expr) {
	for i := range l {
		spoilTerms(l[i].L)
		l[i] = tree.Expr{Op: "spoilt"}
	}
}

// grow appends to each list: no other one may change by it.
func grow(t *testing.T, l []tree.Stmt) {
	t.Helper()
	before := tell(l)
	var stmts func(l []tree.Stmt)
	var terms func(l []tree.Expr)
	terms = func(l []tree.Expr) {
		_ = append(l, tree.Expr{Op: "spoilt"})
		for _, e := range l {
			_ = append(e.P, "spoilt")
			terms(e.L)
		}
	}
	stmts = func(l []tree.Stmt) {
		_ = append(l, tree.Stmt{Kind: "spoilt"})
		for _, s := range l {
			_ = append(s.P, "spoilt")
			terms(s.L)
			stmts(s.Body)
			stmts(s.Else)
		}
	}
	stmts(l)
	if tell(l) != before {
		t.Errorf("lists share memory: %s", tell(l))
	}
	spoil(slices.Clone(l))
}
