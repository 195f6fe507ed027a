package gen_test

import (
	"slices"
	"strconv"
	"strings"
	"sync"
	"testing"

	"nurserypy/api"
	"nurserypy/checks/made"
	"nurserypy/code"
	"nurserypy/gen"
	"nurserypy/plain"
	"nurserypy/scope"
	"nurserypy/tree"
)

func read(t *testing.T, s string) []tree.Stmt {
	t.Helper()
	l, err := tree.Read(s)
	if err != nil {
		t.Fatalf("%.100q: %v", s, err)
	}
	return l
}

// compiled: the code of a program that is right and small.
func compiled(t *testing.T, l []tree.Stmt) code.Code {
	t.Helper()
	c, err := gen.Compile(l)
	if err == nil {
		err = code.Verify(c)
	}
	if err != nil {
		s, _ := tree.Text(l)
		t.Fatalf("%.100q: %v", s, err)
	}
	return c
}

// many: n times one text, with another one between.
func many(s string, n int, between string) string {
	return strings.Join(slices.Repeat([]string{s}, n), between)
}

// some: n names, none twice, with a text ahead of each, and one between.
func some(n int, ahead, between string) string {
	const first = "abcdefghijklmnopqrstuvwxyz_"
	var l []string
	for i := range n {
		name := first[i%len(first) : i%len(first)+1]
		if more := i / len(first); more > 0 {
			name += (first + "0123456789")[more-1 : more]
		}
		// These are words.
		if slices.Contains([]string{"if", "in", "is", "or"}, name) {
			name = "__" + name
		}
		l = append(l, ahead+name)
	}
	return strings.Join(l, between)
}

func same(a, b []string) bool { return slices.Equal(a, b) }

// told: of each Func what P60 asks.
func told(c code.Code) string {
	var out []string
	for _, f := range c.Funcs {
		one := f.Name
		for _, n := range []int{f.Params, f.Cells, f.Frees} {
			one += " " + strconv.Itoa(n)
		}
		out = append(out, one)
	}
	return strings.Join(out, ", ")
}

// shaped fails unless each Func is of its scope, and each op of it can be come to.
func shaped(t *testing.T, l []tree.Stmt, c code.Code) {
	t.Helper()
	s, _ := tree.Text(l)
	scopes, err := scope.Scopes(l)
	if err != nil || len(scopes) != len(c.Funcs) {
		t.Fatalf("%s%d Funcs of %d scopes, %v", s, len(c.Funcs), len(scopes), err)
	}
	for n, of := range scopes {
		f := c.Funcs[n]
		if f.Name != of.Name || f.Params != of.Params || f.Cells != len(of.Cells) || f.Frees != len(of.Frees) {
			t.Errorf("%sFunc %d is %v, its scope %v", s, n, f, of)
		}
		come := make([]bool, len(f.Ops))
		reach(f.Ops, 0, come)
		if slices.Contains(come, false) {
			t.Errorf("%sFunc %d has ops that are never come to:\n%s", s, n, code.Text(c))
		}
	}
}

// reach marks the ops that can be come to from one.
func reach(l []code.Op, at int, come []bool) {
	for !come[at] {
		come[at] = true
		switch l[at].Name {
		case "halt", "return", "raise":
			return
		case "jump":
			at = l[at].A
			continue
		case "unless", "next", "try":
			reach(l, l[at].A, come)
		}
		at++
	}
}

// P60: a Func for each scope, in their order.
func TestFuncs(t *testing.T) {
	for s, want := range map[string]string{
		"":                                  " 0 0 0",
		"x = 1\nprint(x)\n":                 " 0 0 0",
		"def f(a, b):\n return lambda: b\n": " 0 0 0, f 2 1 0, lambda 0 0 1",
		"def f(a, b, c):\n x = lambda y: [a, c, y]\n lambda: x\n":                    " 0 0 0, f 3 3 0, lambda 1 0 2, lambda 0 0 1",
		"f(lambda a: lambda: a, lambda: 1)\ndef g():\n pass\nlambda b, c: 2\n":       " 0 0 0, lambda 1 1 0, lambda 0 0 1, lambda 0 0 0, g 0 0 0, lambda 2 0 0",
		"def f():\n x = 1\n def g():\n  def h():\n   nonlocal x\n   x = 2\n y = 2\n": " 0 0 0, f 0 1 0, g 0 0 1, h 0 0 1",
		// Also where no run comes to.
		"raise 1\nlambda: 1\ndef f(x):\n return 1\n while lambda: x:\n  break\n  def g():\n   return 1\n   return lambda a, b: g\n":               " 0 0 0, lambda 0 0 0, f 1 2 0, lambda 0 0 1, g 0 0 1, lambda 2 0 1",
		"for x in [lambda a: 1]:\n try:\n  lambda a, b: 2\n except e:\n  lambda a, b, c: 3\n if lambda: 4:\n  pass\n elif lambda a: 5:\n  pass\n": " 0 0 0, lambda 1 0 0, lambda 2 0 0, lambda 3 0 0, lambda 0 0 0, lambda 1 0 0",
	} {
		l := read(t, s)
		c := compiled(t, l)
		if got := told(c); got != want {
			t.Errorf("%q: %s", s, got)
		}
		shaped(t, l, c)
	}
}

// steps: how many `step` a code has.
func steps(c code.Code) int {
	n := 0
	for _, f := range c.Funcs {
		for _, op := range f.Ops {
			if op.Name == "step" {
				n++
			}
		}
	}
	return n
}

// P60: `step` where P40 has one. (TestDoes asks when they are done.)
func TestSteps(t *testing.T) {
	for s, want := range map[string]int{
		"": 0, "pass\n": 1, "x = 1\nprint(x)\n": 2, "while x:\n pass\n": 3, "for x in y:\n pass\n": 3,
		"if x:\n pass\nelif y:\n pass\n": 4, "try:\n pass\nexcept x:\n pass\n": 3, "f(lambda: 1)\n": 2, "def f():\n pass\n": 3,
		"def f():\n global x\n def g():\n  nonlocal y\n  return\n y = 1\n": 8,
		"x and y or z\n": 1, "del x[1]\nx[1] = 2\nraise x\n": 3,
	} {
		if got := steps(compiled(t, read(t, s))); got != want {
			t.Errorf("%q: %d", s, got)
		}
	}
}

// P60: what is as much as code.Verify allows, and what is more. (No program is long enough for too many ops, ints, strs or names.)
func TestBounds(t *testing.T) {
	for _, x := range []struct{ most, more string }{
		{many("lambda: 0\n", 399, ""), many("lambda: 0\n", 400, "")},
		{"[" + many("0", 1000, ", ") + "]\n", "[" + many("0", 1001, ", ") + "]\n"},
		{"{" + many("0: 0", 500, ", ") + "}\n", "{" + many("0: 0", 501, ", ") + "}\n"},
		{"f(" + many("0", 999, ", ") + ")\n", "f(" + many("0", 1000, ", ") + ")\n"},
		{"for x in y:\n [" + many("0", 999, ", ") + "]\n", "for x in y:\n [" + many("0", 1000, ", ") + "]\n"},
		{"def f(" + some(400, "", ", ") + "):\n pass\n", "def f(" + some(401, "", ", ") + "):\n pass\n"},
		{"def f():\n " + some(400, "", " = 0\n ") + " = 0\n", "def f():\n " + some(401, "", " = 0\n ") + " = 0\n"},
		{"def f(x):\n " + some(399, "_", " = 0\n ") + " = 0\n", "def f(x):\n " + some(400, "_", " = 0\n ") + " = 0\n"},
		{"def f():\n " + some(400, "", " = 0\n ") + " = lambda: [" + some(400, "", ", ") + "]\n", "def f():\n " + some(401, "", " = 0\n ") + " = lambda: [" + some(401, "", ", ") + "]\n"},
	} {
		compiled(t, read(t, x.most))
		c, err := gen.Compile(read(t, x.more))
		if err != api.ErrBound || !empty(c) {
			t.Errorf("%.60q: %v, %d Funcs", x.more, err, len(c.Funcs))
		}
		// Names are told as ever.
		if l, err := gen.Names(read(t, x.more)); err != nil || !same(l, globals(t, read(t, x.more))) {
			t.Errorf("%.60q: %v, %v", x.more, l, err)
		}
	}
}

func empty(c code.Code) bool {
	return len(c.Funcs) == 0 && len(c.Ints) == 0 && len(c.Strs) == 0 && len(c.Names) == 0
}

// globals: P61 by a second way: each name that stands in the program outside of `global` and `nonlocal`, in some scope that has it not.
func globals(t *testing.T, l []tree.Stmt) []string {
	t.Helper()
	scopes, err := scope.Scopes(l)
	if err != nil {
		t.Fatal(err)
	}
	var out []string
	begun := 0
	add := func(in int, name string) {
		s := scopes[in]
		if !slices.Contains(slices.Concat(s.Locals, s.Cells, s.Frees), name) {
			out = append(out, name)
		}
	}
	var terms func(in int, l []tree.Expr)
	terms = func(in int, l []tree.Expr) {
		for _, e := range l {
			within := in
			if e.Op == "lambda" {
				begun++
				within = begun
			}
			if e.Op == "name" {
				add(in, e.S)
			}
			terms(within, e.L)
		}
	}
	var block func(in int, l []tree.Stmt)
	block = func(in int, l []tree.Stmt) {
		for _, s := range l {
			terms(in, s.L)
			if s.Name != "" {
				add(in, s.Name)
			}
			within := in
			if s.Kind == "def" {
				begun++
				within = begun
			}
			block(within, s.Body)
			block(in, s.Else)
		}
	}
	block(0, l)
	slices.Sort(out)
	return slices.Compact(out)
}

// P61: the names that are global, of programs that say so in all ways.
func TestNames(t *testing.T) {
	for s, want := range map[string]string{
		"": "", "pass\n": "", "1\n\"a\"\n": "",
		"x = y\ndef f(a):\n global z\n z = a\n b = print(c)\n": "c f print x y z",
		"b\na\na1\n_\na\n":                     "_ a a1 b",
		"for x in y:\n pass\n":                 "x y",
		"try:\n pass\nexcept x:\n y\n":         "x y",
		"a[b] = c\ndel d[e]\nraise f\n":        "a b c d e f",
		"while a:\n if b:\n  c\n else:\n  d\n": "a b c d",
		"lambda a: [a, b]\n":                   "b",
		"def f(a):\n return lambda: [a, b]\n":  "b f",
		"def f():\n x = 1\n for y in z:\n  pass\n try:\n  def g():\n   pass\n except e:\n  pass\n": "f z",
		"def f():\n global x\n":                                 "f",
		"def f():\n global x\n x\n":                             "f x",
		"def f():\n global x\n for x in []:\n  pass\n":          "f x",
		"x = 1\ndef f():\n x = 2\n":                             "f x",
		"def f():\n x = 2\n return lambda: x\n":                 "f",
		"def f():\n x = 2\n def g():\n  global x\n  return x\n": "f x",
		"def f():\n x = 1\n def g():\n  nonlocal x\n  x = y\n":  "f y",
		"{a: b, c(d): -e}\nnot f and g or h is i\n":             "a b c d e f g h i",
		"raise a\nb\ndef f():\n return\n c\n":                   "a b c f",
		"print(len)\n":                                          "len print",
	} {
		got, err := gen.Names(read(t, s))
		if strings.Join(got, " ") != want || err != nil {
			t.Errorf("%q: %v, %v", s, got, err)
		}
		if !same(got, globals(t, read(t, s))) {
			t.Errorf("%q: %v, by a second way %v", s, got, globals(t, read(t, s)))
		}
	}
}

// spoilt: programs that are none.
func spoilt(t *testing.T) [][]tree.Stmt {
	t.Helper()
	out := [][]tree.Stmt{
		{{}},
		{{Kind: "none"}},
		{{Kind: "expr"}},
		{{Kind: "set", L: []tree.Expr{{Op: "None"}}}},
		{{Kind: "expr", L: []tree.Expr{{Op: "+", L: []tree.Expr{{Op: "None"}}}}}},
		{{Kind: "expr", L: []tree.Expr{{Op: "lambda"}}}},
		{{Kind: "expr", L: []tree.Expr{{Op: "dict", L: []tree.Expr{{Op: "None"}}}}}},
		{{Kind: "expr", L: []tree.Expr{{Op: "call"}}}},
		{{Kind: "while", L: []tree.Expr{{Op: "None"}}}},
		{{Kind: "def", Name: "f"}},
		slices.Repeat([]tree.Stmt{{Kind: "pass"}}, api.MaxSource),
	}
	for _, s := range []string{
		"return\n", "break\n", "global x\n", "pass\nwhile x:\n pass\n continue\ncontinue\n", "def f(x, x):\n pass\n", "pass\nlambda x, x: 1\n",
		"def f():\n nonlocal x\n", "def f():\n x = 1\n global x\n", "try:\n pass\nexcept x:\n break\n",
	} {
		out = append(out, read(t, s))
	}
	return out
}

// alike: the same error, with the same place.
func alike(a, b error) bool {
	code, at := plain.Code(a)
	code2, at2 := plain.Code(b)
	return code == code2 && at == at2
}

// P60, P61, P3: scope.Check's error, with its place, and nothing beside it.
func TestErrors(t *testing.T) {
	for n, l := range spoilt(t) {
		want := scope.Check(l)
		c, err := gen.Compile(l)
		names, err2 := gen.Names(l)
		if want == nil || !alike(err, want) || !alike(err2, want) {
			t.Errorf("%d: %v, %v, want %v", n, err, err2, want)
		}
		if !empty(c) || len(names) > 0 {
			t.Errorf("%d: %v and %v beside %v", n, c, names, err)
		}
	}
}

// P1: trees that are damaged anywhere are no harm.
func TestDamaged(t *testing.T) {
	taken := 0
	for seed := range 300 {
		l := made.Program(seed % 30)
		damage(l, seed)
		c, err := gen.Compile(l)
		if want := scope.Check(l); !alike(err, want) {
			t.Fatalf("%d: %v, want %v", seed, err, want)
		}
		if err == nil {
			taken++
			shaped(t, l, c)
		}
		_, err = gen.Names(l)
		if want := scope.Check(l); !alike(err, want) {
			t.Fatalf("%d: %v, want %v", seed, err, want)
		}
	}
	if taken == 0 || taken == 300 {
		t.Errorf("%d of 300 are taken", taken)
	}
}

// damage changes one statement of a program.
func damage(l []tree.Stmt, seed int) {
	s := &l[seed%len(l)]
	kinds := strings.Fields("expr set put del if while for def return raise try break continue pass global nonlocal none")
	switch seed % 5 {
	case 0, 1:
		s.Kind = kinds[seed/5%len(kinds)]
	case 2:
		s.Body, s.Else = s.Else, s.Body
	case 3:
		s.L = append([]tree.Expr{{Op: "name", S: "x"}}, s.L...)
	case 4:
		*s = tree.Stmt{Kind: "try", Body: []tree.Stmt{*s}, Name: "e", Else: []tree.Stmt{*s}}
	}
}

const whole = "def f(a, b):\n x = [a, \"s\", 7]\n for i in x:\n  try:\n   g(lambda: b)\n  except e:\n   break\n return 8\nf(1, \"t\")\n"

// P4: what is handed over is only read, also behind the lists' ends; what is answered is new, and no two lists share memory.
func TestOnlyReads(t *testing.T) {
	l := read(t, whole)
	longer := append(read(t, whole), tree.Stmt{Kind: "none"})[:len(l)]
	want := code.Text(compiled(t, l))
	c := compiled(t, longer)
	names, _ := gen.Names(longer)
	if code.Text(c) != want || !same(names, []string{"f", "g"}) {
		t.Errorf("%s%v, want %s", code.Text(c), names, want)
	}
	before, _ := tree.Text(l)
	after, _ := tree.Text(longer)
	if before != after || longer[:len(l)+1][len(l)].Kind != "none" {
		t.Error("it was changed: " + after)
	}
	for n := range c.Funcs {
		grown := append(c.Funcs[n].Ops, code.Op{Name: "grown"})
		grown[0].Name = "spoilt"
	}
	_ = append(append(c.Names, "grown"), append(c.Strs, "grown")...)
	_ = append(c.Ints, 9)
	if got := strings.ReplaceAll(code.Text(c), "0 spoilt", "0 step"); got != want {
		t.Errorf("%s, want %s", got, want)
	}
	c.Names[0], c.Strs[0], c.Ints[0], names[0] = "spoilt", "spoilt", 99, "spoilt"
	again, _ := gen.Names(longer)
	if code.Text(compiled(t, longer)) != want || again[0] != "f" {
		t.Error("an answer was kept")
	}
	l[0].Name, l[0].P[0], l[0].Body[0].L[0].L[1].S = "spoilt", "spoilt", "spoilt"
	if code.Text(compiled(t, longer)) != want {
		t.Error("an argument was kept")
	}
}

// P2: many at once answer what one does.
func TestSideBySide(t *testing.T) {
	var wait sync.WaitGroup
	for seed := range 8 {
		l := made.Program(seed % 4)
		want := code.Text(compiled(t, l))
		wait.Go(func() {
			for range 10 {
				c, err := gen.Compile(l)
				names, err2 := gen.Names(l)
				if code.Text(c) != want || err != nil || err2 != nil || !slices.IsSorted(names) {
					t.Error(seed, err, err2)
				}
			}
		})
	}
	wait.Wait()
}
