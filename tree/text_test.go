package tree_test

import (
	"slices"
	"strings"
	"testing"

	"nurserypy/api"
	"nurserypy/tree"
)

// P24: brackets just where the term would be another one without.
func TestTextOfTerms(t *testing.T) {
	sum, product, less, both, either := term("+", a, b), term("*", a, b), term("<", a, b), term("and", a, b), term("or", a, b)
	for want, e := range map[string]tree.Expr{
		"0":                             num(0),
		"9223372036854775807":           num(1<<63 - 1),
		`"a\n\"\\\x00~\x7f"`:            str("a\n\"\\\x00~\x7f"),
		"None":                          plain("None"),
		"True":                          plain("True"),
		"False":                         plain("False"),
		"abc_1":                         name("abc_1"),
		"a + b + c":                     term("+", sum, c),
		"a + (b + c)":                   term("+", a, term("+", b, c)),
		"a - (b + c)":                   term("-", a, term("+", b, c)),
		"a * b + c":                     term("+", product, c),
		"c + a * b":                     term("+", c, product),
		"(a + b) * c":                   term("*", sum, c),
		"c * (a + b)":                   term("*", c, sum),
		"c // (a * b)":                  term("//", c, product),
		"a * b % c":                     term("%", product, c),
		"a + b < a * b":                 term("<", sum, product),
		"(a < b) < c":                   term("<", less, c),
		"c in (a < b)":                  term("in", c, less),
		"(a < b) + c":                   term("+", less, c),
		"a < b and a < b":               term("and", less, less),
		"a and b and c":                 term("and", both, c),
		"c and (a and b)":               term("and", c, both),
		"a and b or a and b":            term("or", both, both),
		"(a or b) and (a or b)":         term("and", either, either),
		"a or b or c":                   term("or", either, c),
		"c or (a or b)":                 term("or", c, either),
		"not a":                         term("not", a),
		"not not a":                     term("not", term("not", a)),
		"not a < b":                     term("not", less),
		"(not a) < b":                   term("<", term("not", a), b),
		"a < (not b)":                   term("<", a, term("not", b)),
		"not (a and b)":                 term("not", both),
		"not a and b":                   term("and", term("not", a), b),
		"a or not b":                    term("or", a, term("not", b)),
		"-a":                            term("neg", a),
		"--a":                           term("neg", term("neg", a)),
		"a - -b":                        term("-", a, term("neg", b)),
		"-a - b":                        term("-", term("neg", a), b),
		"-(a - b)":                      term("neg", term("-", a, b)),
		"-(a * b)":                      term("neg", product),
		"-a * b":                        term("*", term("neg", a), b),
		"-(not a)":                      term("neg", term("not", a)),
		"not -a":                        term("not", term("neg", a)),
		"-a(b)":                         term("neg", term("call", a, b)),
		"(-a)(b)":                       term("call", term("neg", a), b),
		"(-1)[0]":                       term("index", term("neg", num(1)), num(0)),
		"(a + b)[a + b]":                term("index", sum, sum),
		"(not a)()":                     term("call", term("not", a)),
		"a()()[b](a, b, c)":             term("call", term("index", term("call", term("call", a)), b), a, b, c),
		"[a + b, a or b, -a]":           term("list", sum, either, term("neg", a)),
		"{}":                            term("dict"),
		"{a + b: a or b, c: lambda: a}": term("dict", sum, either, c, lambda(a)),
		"{lambda: a: b}":                term("dict", lambda(a), b),
		"lambda: a":                     lambda(a),
		"lambda a: a or b":              lambda(either, "a"),
		"lambda a, b: lambda c: a":      lambda(lambda(a, "c"), "a", "b"),
		"(lambda: a) or b":              term("or", lambda(a), b),
		"a or (lambda: b)":              term("or", a, lambda(b)),
		"not (lambda: a)":               term("not", lambda(a)),
		"(lambda: a)()":                 term("call", lambda(a)),
		"f(lambda: a, lambda b: c)":     term("call", name("f"), lambda(a), lambda(c, "b")),
		"a[lambda: a]":                  term("index", a, lambda(a)),
		"[lambda: a, b]":                term("list", lambda(a), b),
		`"a"[0](1)`:                     term("call", term("index", str("a"), num(0)), num(1)),
		"1()":                           term("call", num(1)),
		"{a: b}[a]":                     term("index", term("dict", a, b), a),
	} {
		writes(t, want+"\n", stmt("expr", e))
		writes(t, "a = "+want+"\n", tree.Stmt{Kind: "set", Name: "a", L: []tree.Expr{e}})
		writes(t, "return "+want+"\n", stmt("return", e))
		writes(t, "raise "+want+"\n", stmt("raise", e))
		writes(t, "del a["+want+"]\n", stmt("del", a, e))
		writes(t, "a["+want+"] = "+want+"\n", stmt("put", a, e, e))
		writes(t, "if "+want+":\n    pass\n", tree.Stmt{Kind: "if", L: []tree.Expr{e}, Body: block(stmt("pass"))})
		writes(t, "while "+want+":\n    pass\n", tree.Stmt{Kind: "while", L: []tree.Expr{e}, Body: block(stmt("pass"))})
		writes(t, "for b in "+want+":\n    pass\n", tree.Stmt{Kind: "for", Name: "b", L: []tree.Expr{e}, Body: block(stmt("pass"))})
	}
	for _, op := range sided {
		writes(t, "a "+op+" b\n", stmt("expr", term(op, a, b)))
		writes(t, "(a "+op+" b)[c] = d\n", stmt("put", term(op, a, b), c, d))
		writes(t, "del (a "+op+" b)[c]\n", stmt("del", term(op, a, b), c))
	}
}

// P24: statements, four blanks for each block, `elif` where that can be.
func TestTextOfStatements(t *testing.T) {
	pass, leave := block(stmt("pass")), block(stmt("break"))
	choice := func(body []tree.Stmt, or ...tree.Stmt) tree.Stmt {
		return tree.Stmt{Kind: "if", L: []tree.Expr{a}, Body: body, Else: or}
	}
	writes(t, "")
	writes(t, "break\ncontinue\npass\nreturn\n", stmt("break"), stmt("continue"), stmt("pass"), stmt("return"))
	writes(t, "global a\nnonlocal b, a\n", tree.Stmt{Kind: "global", P: []string{"a"}}, tree.Stmt{Kind: "nonlocal", P: []string{"b", "a"}})
	writes(t, "if a:\n    pass\nelse:\n    break\n", choice(pass, leave...))
	writes(t, "if a:\n    pass\nelif a:\n    break\n", choice(pass, choice(leave)))
	writes(t, "if a:\n    pass\nelif a:\n    break\nelif a:\n    pass\nelse:\n    break\n", choice(pass, choice(leave, choice(pass, leave...))))
	writes(t, "if a:\n    pass\nelse:\n    if a:\n        break\n    pass\n", choice(pass, choice(leave), pass[0]))
	writes(t, "if a:\n    pass\nelse:\n    pass\n    if a:\n        break\n", choice(pass, pass[0], choice(leave)))
	writes(t, "if a:\n    if a:\n        pass\nelse:\n    break\n", choice(block(choice(pass)), leave...))
	writes(t, "if a:\n    if a:\n        pass\n    else:\n        break\n", choice(block(choice(pass, leave...))))
	writes(t, "if a:\n    pass\nelse:\n    while a:\n        pass\n", choice(pass, tree.Stmt{Kind: "while", L: []tree.Expr{a}, Body: pass}))
	writes(t, "def f():\n    def g(a, b):\n        pass\n        break\n    break\npass\n",
		tree.Stmt{Kind: "def", Name: "f", Body: block(tree.Stmt{Kind: "def", Name: "g", P: []string{"a", "b"}, Body: block(pass[0], leave[0])}, leave[0])}, pass[0])
	writes(t, "try:\n    try:\n        pass\n    except a:\n        break\nexcept b:\n    try:\n        pass\n    except c:\n        break\n",
		tree.Stmt{Kind: "try", Name: "b",
			Body: block(tree.Stmt{Kind: "try", Name: "a", Body: pass, Else: leave}),
			Else: block(tree.Stmt{Kind: "try", Name: "c", Body: pass, Else: leave})})
}

// chain: so many ifs, each alone in the Else ahead.
func chain(n int) []tree.Stmt {
	l := block(stmt("pass"))
	for range n {
		l = block(tree.Stmt{Kind: "if", L: []tree.Expr{a}, Body: block(stmt("pass")), Else: l})
	}
	return l
}

// in: so many terms, each in the next.
func in(n int, e tree.Expr, around func(tree.Expr) tree.Expr) []tree.Stmt {
	for range n {
		e = around(e)
	}
	return block(stmt("expr", e))
}

// within: a statement in so many blocks, the program itself the first.
func within(n int) []tree.Stmt {
	l := block(stmt("pass"))
	for range n - 1 {
		l = block(tree.Stmt{Kind: "while", L: []tree.Expr{a}, Body: l})
	}
	return l
}

// P24, P25: what Read refuses as too deep has no text; what Read does not count may be as deep as it is.
func TestTextDeep(t *testing.T) {
	n := api.MaxDeep
	neg := func(e tree.Expr) tree.Expr { return term("neg", e) }
	list := func(e tree.Expr) tree.Expr { return term("list", e) }
	left := func(e tree.Expr) tree.Expr { return term("+", e, a) }
	right := func(e tree.Expr) tree.Expr { return term("+", a, e) }
	called := func(e tree.Expr) tree.Expr { return term("call", e) }
	for _, l := range [][]tree.Stmt{in(n, a, neg), in(n, a, list), in(n+1, a, right), in(1000, a, left), in(1000, a, called), chain(200), within(n)} {
		s, err := tree.Text(l)
		if err != nil {
			t.Errorf("%s: %v", tell(l), err)
		}
		reads(t, s, l...)
	}
	for _, l := range [][]tree.Stmt{in(n+1, a, neg), in(n+1, a, list), in(n+2, a, right), within(n + 1)} {
		noText(t, tell(l), l)
	}
}

// P24: no program of more than MaxSource bytes.
func TestTextLong(t *testing.T) {
	most := slices.Repeat([]tree.Stmt{stmt("expr", a)}, api.MaxSource/2)
	writes(t, strings.Repeat("a\n", api.MaxSource/2), most...)
	noText(t, "one statement more", append(slices.Clone(most), stmt("expr", a)))
	most[7] = stmt("expr", name("aa"))
	noText(t, "one byte more", most)
	for part, size := range map[string]int{"~": 1, "\n": 2, "\"": 2, "\x00": 4} {
		fill := (api.MaxSource - 3) / size
		writes(t, `"`+strings.Repeat(map[string]string{"~": "~", "\n": `\n`, "\"": `\"`, "\x00": `\x00`}[part], fill)+"\"\n", stmt("expr", str(strings.Repeat(part, fill))))
		noText(t, "a str too long", block(stmt("expr", str(strings.Repeat(part, fill+1)))))
	}
	tight := strings.Repeat("a=b\n", api.MaxSource/4)
	l, err := tree.Read(tight)
	if err != nil {
		t.Fatal(err)
	}
	noText(t, "a program that is short enough only without blanks", l)
}

// P1, P24: trees beyond all bounds, and such as share their parts, end soon.
func TestTextEnds(t *testing.T) {
	const many = 200000
	neg := func(e tree.Expr) tree.Expr { return term("neg", e) }
	twice := func(e tree.Expr) tree.Expr { return term("+", e, e) }
	listed := func(e tree.Expr) tree.Expr { return term("list", e, e, e) }
	noText(t, "negs", in(many, a, neg))
	noText(t, "left sides", in(many, a, func(e tree.Expr) tree.Expr { return term("-", e, a) }))
	noText(t, "calls", in(many, a, func(e tree.Expr) tree.Expr { return term("call", e) }))
	noText(t, "indexes", in(many, a, func(e tree.Expr) tree.Expr { return term("index", e, a) }))
	noText(t, "a tree of all", in(60, a, twice))
	noText(t, "a tree of lists", in(60, a, listed))
	noText(t, "a tree of nothing", in(60, plain(""), twice))
	noText(t, "blocks", within(many))
	noText(t, "a chain", chain(many))
	noText(t, "statements", make([]tree.Stmt, many))
	noText(t, "names", block(tree.Stmt{Kind: "global", P: make([]string, many)}))
	noText(t, "params", block(tree.Stmt{Kind: "def", Name: "f", P: slices.Repeat([]string{"a"}, many), Body: block(stmt("pass"))}))
	noText(t, "a lambda's params", block(stmt("expr", lambda(a, make([]string, many)...))))
	noText(t, "a great str", block(stmt("expr", str(strings.Repeat("\x00", 1<<22)))))
	noText(t, "a great name", block(stmt("expr", name(strings.Repeat("a", 1<<22)))))
	noText(t, "a great list", block(stmt("expr", term("list", make([]tree.Expr, many)...))))
	noText(t, "a great dict", block(stmt("expr", term("dict", slices.Repeat([]tree.Expr{a}, many)...))))
	// Terms that hold themselves stand here for those that are too deep for any stack.
	for _, op := range []string{"+", "call", "index", "list", "dict", "neg", "lambda"} {
		loop := []tree.Expr{a, a}
		loop[0] = term(op, loop...)
		loop[0].L = loop
		noText(t, "a loop of "+op, block(stmt("expr", loop[0])))
	}
	l := within(10)
	for range 40 {
		l = block(tree.Stmt{Kind: "if", L: []tree.Expr{a}, Body: l, Else: append(slices.Clone(l), l...)})
	}
	noText(t, "a tree of blocks", l)
}

// P24: trees of which there is no program.
func TestTextShapes(t *testing.T) {
	pass := block(stmt("pass"))
	for what, s := range map[string]tree.Stmt{
		"no kind":                {},
		"a kind that is none":    {Kind: "print", L: []tree.Expr{a}},
		"elif as a kind":         {Kind: "elif", L: []tree.Expr{a}, Body: pass},
		"expr of nothing":        {Kind: "expr"},
		"expr of two":            stmt("expr", a, b),
		"expr with a name":       {Kind: "expr", Name: "a", L: []tree.Expr{a}},
		"expr with names":        {Kind: "expr", P: []string{"a"}, L: []tree.Expr{a}},
		"expr with a body":       {Kind: "expr", L: []tree.Expr{a}, Body: pass},
		"expr with an else":      {Kind: "expr", L: []tree.Expr{a}, Else: pass},
		"set of nothing":         {Kind: "set", Name: "a"},
		"set of no name":         {Kind: "set", L: []tree.Expr{a}},
		"set of two":             {Kind: "set", Name: "a", L: []tree.Expr{a, b}},
		"set of a word":          {Kind: "set", Name: "if", L: []tree.Expr{a}},
		"set of a great name":    {Kind: "set", Name: strings.Repeat("a", api.MaxName+1), L: []tree.Expr{a}},
		"set of an index":        {Kind: "set", Name: "a[b]", L: []tree.Expr{c}},
		"set of a name and more": {Kind: "set", Name: "a\nb", L: []tree.Expr{c}},
		"set of two names":       {Kind: "set", Name: "a = b", L: []tree.Expr{c}},
		"set of a blank":         {Kind: "set", Name: "a ", L: []tree.Expr{c}},
		"set in a comment":       {Kind: "set", Name: "a #", L: []tree.Expr{c}},
		"put of two":             stmt("put", a, b),
		"put of four":            stmt("put", a, b, c, d),
		"put with a name":        {Kind: "put", Name: "a", L: []tree.Expr{a, b, c}},
		"del of one":             stmt("del", a),
		"del of three":           stmt("del", a, b, c),
		"del of nothing":         stmt("del"),
		"if of nothing":          {Kind: "if", Body: pass},
		"if of two":              {Kind: "if", L: []tree.Expr{a, b}, Body: pass},
		"if without body":        {Kind: "if", L: []tree.Expr{a}},
		"if with else alone":     {Kind: "if", L: []tree.Expr{a}, Else: pass},
		"if with a name":         {Kind: "if", Name: "a", L: []tree.Expr{a}, Body: pass},
		"if with names":          {Kind: "if", P: []string{"a"}, L: []tree.Expr{a}, Body: pass},
		"elif of nothing":        {Kind: "if", L: []tree.Expr{a}, Body: pass, Else: block(tree.Stmt{Kind: "if", Body: pass})},
		"elif without body":      {Kind: "if", L: []tree.Expr{a}, Body: pass, Else: block(tree.Stmt{Kind: "if", L: []tree.Expr{a}})},
		"while of nothing":       {Kind: "while", Body: pass},
		"while without body":     {Kind: "while", L: []tree.Expr{a}},
		"while with else":        {Kind: "while", L: []tree.Expr{a}, Body: pass, Else: pass},
		"for of nothing":         {Kind: "for", Name: "a", Body: pass},
		"for of no name":         {Kind: "for", L: []tree.Expr{a}, Body: pass},
		"for without body":       {Kind: "for", Name: "a", L: []tree.Expr{a}},
		"for with else":          {Kind: "for", Name: "a", L: []tree.Expr{a}, Body: pass, Else: pass},
		"def of no name":         {Kind: "def", Body: pass},
		"def without body":       {Kind: "def", Name: "f"},
		"def with a term":        {Kind: "def", Name: "f", L: []tree.Expr{a}, Body: pass},
		"def with else":          {Kind: "def", Name: "f", Body: pass, Else: pass},
		"def with a word":        {Kind: "def", Name: "f", P: []string{"in"}, Body: pass},
		"def with an empty name": {Kind: "def", Name: "f", P: []string{""}, Body: pass},
		"def with two in one":    {Kind: "def", Name: "f", P: []string{"a, b"}, Body: pass},
		"return of two":          stmt("return", a, b),
		"return with a name":     {Kind: "return", Name: "a"},
		"raise of nothing":       stmt("raise"),
		"raise of two":           stmt("raise", a, b),
		"try without body":       {Kind: "try", Name: "a", Else: pass},
		"try without else":       {Kind: "try", Name: "a", Body: pass},
		"try without name":       {Kind: "try", Body: pass, Else: pass},
		"try with a term":        {Kind: "try", Name: "a", L: []tree.Expr{a}, Body: pass, Else: pass},
		"break with a term":      stmt("break", a),
		"continue with a name":   {Kind: "continue", Name: "a"},
		"pass with a body":       {Kind: "pass", Body: pass},
		"global of none":         {Kind: "global"},
		"global of a word":       {Kind: "global", P: []string{"None"}},
		"global of an empty one": {Kind: "global", P: []string{"a", ""}},
		"global with a name":     {Kind: "global", Name: "a", P: []string{"a"}},
		"nonlocal of none":       {Kind: "nonlocal"},
		"nonlocal with a term":   {Kind: "nonlocal", P: []string{"a"}, L: []tree.Expr{a}},
	} {
		noText(t, what, block(s))
		noText(t, what+", among others", block(stmt("pass"), s, stmt("pass")))
		noText(t, what+", in a block", block(tree.Stmt{Kind: "while", L: []tree.Expr{a}, Body: block(s)}))
		noText(t, what+", in an else", block(tree.Stmt{Kind: "try", Name: "a", Body: pass, Else: block(s, s)}))
	}
}

// P24: terms of which there is no program.
func TestTextTermShapes(t *testing.T) {
	for what, e := range map[string]tree.Expr{
		"no op":              {},
		"an op that is none": term("**", a, b),
		"not in":             term("not in", a, b),
		"an = between":       term("=", a, b),
		"a dot between":      term(".", a, b),
		"a comma between":    term(",", a, b),
		"two ops as one":     term("+ c +", a, b),
		"an op and a blank":  term("+ ", a, b),
		"an int below 0":     num(-1),
		"the least int":      num(-1 << 63),
		"an int with S":      {Op: "int", N: 1, S: "1"},
		"an int with L":      {Op: "int", N: 1, L: []tree.Expr{a}},
		"a str with N":       {Op: "str", N: 1, S: "a"},
		"a str with P":       {Op: "str", S: "a", P: []string{"a"}},
		"None with N":        {Op: "None", N: 1},
		"True with S":        {Op: "True", S: "True"},
		"False with L":       term("False", a),
		"a name without S":   {Op: "name"},
		"a name that is one": name("None"),
		"a name of a word":   name("and"),
		"a capital name":     name("A"),
		"a great name":       name(strings.Repeat("a", api.MaxName+1)),
		"a name and more":    name("a + b"),
		"a name in brackets": name("(a)"),
		"a name of an int":   name("1"),
		"a name with N":      {Op: "name", S: "a", N: 1},
		"neg of nothing":     term("neg"),
		"neg of two":         term("neg", a, b),
		"not of nothing":     term("not"),
		"not of two":         term("not", a, b),
		"+ of nothing":       term("+"),
		"+ of one":           term("+", a),
		"+ of three":         term("+", a, b, c),
		"+ with S":           {Op: "+", S: "+", L: []tree.Expr{a, b}},
		"+ with N":           {Op: "+", N: 1, L: []tree.Expr{a, b}},
		"+ with P":           {Op: "+", P: []string{"a"}, L: []tree.Expr{a, b}},
		"is of one":          term("is", a),
		"call of nothing":    term("call"),
		"call with S":        {Op: "call", S: "f", L: []tree.Expr{a}},
		"index of one":       term("index", a),
		"index of three":     term("index", a, b, c),
		"list with P":        {Op: "list", P: []string{"a"}},
		"dict of one":        term("dict", a),
		"dict of three":      term("dict", a, b, c),
		"lambda of nothing":  {Op: "lambda", P: []string{"a"}},
		"lambda of two":      term("lambda", a, b),
		"lambda of a word":   lambda(a, "if"),
		"lambda of no name":  lambda(a, ""),
		"lambda of an int":   lambda(a, "a", "1"),
		"lambda with S":      {Op: "lambda", S: "f", L: []tree.Expr{a}},
	} {
		noText(t, what, block(stmt("expr", e)))
		for _, op := range sided {
			noText(t, what+", left of "+op, block(stmt("expr", term(op, e, a))))
			noText(t, what+", right of "+op, block(stmt("raise", term(op, a, e))))
		}
		for _, around := range []tree.Expr{term("neg", e), term("not", e), term("call", e), term("call", a, e), term("index", e, a), term("index", a, e), term("list", e), term("dict", e, a), term("dict", a, e), lambda(e)} {
			noText(t, what+", in "+around.Op, block(tree.Stmt{Kind: "set", Name: "a", L: []tree.Expr{around}}))
		}
		noText(t, what+", put", block(stmt("put", e, a, b)))
		noText(t, what+", put at", block(stmt("put", a, e, b)))
		noText(t, what+", put there", block(stmt("put", a, b, e)))
		noText(t, what+", gone", block(stmt("del", e, a)))
		noText(t, what+", gone at", block(stmt("del", a, e)))
	}
}

// P3, P4: a nil list and an empty one are one; trees are only read, and not behind their lengths.
func TestTextOnlyReads(t *testing.T) {
	room := []tree.Expr{a, b, {Op: "spoilt"}}
	names := []string{"a", "b", "?"}
	l := []tree.Stmt{
		{Kind: "expr", P: []string{}, L: []tree.Expr{{Op: "+", P: []string{}, L: room[:2]}}, Body: []tree.Stmt{}, Else: []tree.Stmt{}},
		{Kind: "global", P: names[:2]},
		{Kind: "set", Name: "x", L: []tree.Expr{{Op: "list", L: room[:0]}}},
		{Kind: "spoilt"},
	}
	kept := copyStmts(l)
	s, err := tree.Text(l[:3])
	if s != "a + b\nglobal a, b\nx = []\n" || err != nil {
		t.Errorf("%q, %v", s, err)
	}
	if tell(l) != tell(kept) || room[2].Op != "spoilt" || names[2] != "?" {
		t.Errorf("changed: %s", tell(l))
	}
}
