package scope_test

import (
	"slices"
	"strconv"
	"strings"
	"sync"
	"testing"

	"nurserypy/api"
	"nurserypy/plain"
	"nurserypy/scope"
	"nurserypy/tree"
)

// lines: a program, a line each.
func lines(l ...string) string {
	return strings.Join(l, "\n") + "\n"
}

func read(t *testing.T, s string) []tree.Stmt {
	t.Helper()
	l, err := tree.Read(s)
	if err != nil {
		t.Fatalf("%q: %v", s, err)
	}
	return l
}

// tell writes scopes, a line each: `NAME AROUND PARAMS [locals] [cells] [frees]`, the program's name as `-`.
func tell(l []scope.Scope) string {
	var out []string
	for _, s := range l {
		name := s.Name
		if name == "" {
			name = "-"
		}
		one := name + " " + strconv.Itoa(s.Around) + " " + strconv.Itoa(s.Params)
		for _, names := range [][]string{s.Locals, s.Cells, s.Frees} {
			one += " [" + strings.Join(names, " ") + "]"
		}
		out = append(out, one)
	}
	return lines(out...)
}

const program = "- -1 0 [] [] []"

// has fails unless the program is right, and has these scopes behind the program's own.
func has(t *testing.T, s string, want ...string) {
	t.Helper()
	l := read(t, s)
	if err := scope.Check(l); err != nil {
		t.Errorf("%q: %v", s, err)
	}
	got, err := scope.Scopes(l)
	told := lines(append([]string{program}, want...)...)
	if err != nil || tell(got) != told {
		t.Errorf("%q: %v\n%swant\n%s", s, err, tell(got), told)
	}
	holds(t, s, got)
}

// holds fails unless P33 is so of the scopes, and each stands behind the one around.
func holds(t *testing.T, what string, l []scope.Scope) {
	t.Helper()
	for n, s := range l {
		if s.Around >= n || s.Around < 0 && n > 0 {
			t.Fatalf("%s: scope %d in %d", what, n, s.Around)
		}
		all := slices.Concat(s.Locals, s.Cells, s.Frees)
		slices.Sort(all)
		if len(slices.Compact(all)) != len(s.Locals)+len(s.Cells)+len(s.Frees) {
			t.Errorf("%s: a name twice in scope %d:\n%s", what, n, tell(l))
		}
		if !slices.IsSorted(s.Frees) {
			t.Errorf("%s: frees of scope %d do not rise:\n%s", what, n, tell(l))
		}
		for _, name := range s.Frees {
			if n == 0 || !slices.Contains(l[s.Around].Cells, name) && !slices.Contains(l[s.Around].Frees, name) {
				t.Errorf("%s: %s is free in scope %d, and nothing around:\n%s", what, name, n, tell(l))
			}
		}
	}
}

// fails fails unless both calls answer ErrName at that statement, and nothing else.
func fails(t *testing.T, s string, at int) {
	t.Helper()
	l := read(t, s)
	scopes, err := scope.Scopes(l)
	for _, err := range []error{err, scope.Check(l)} {
		if f, ok := err.(*api.Fault); !ok || f.Err != api.ErrName || f.At != at {
			t.Errorf("%q: %#v; want %d", s, err, at)
		}
		if code, place := plain.Code(err); code != 4 || place != at {
			t.Errorf("%q: told as %d at %d", s, code, place)
		}
	}
	if len(scopes) != 0 {
		t.Errorf("%q: scopes beside an error:\n%s", s, tell(scopes))
	}
}

// right fails unless Check has nothing to say.
func right(t *testing.T, s string) {
	t.Helper()
	if err := scope.Check(read(t, s)); err != nil {
		t.Errorf("%q: %v", s, err)
	}
}

// P30, P31: the program has no names of its own: they are global.
func TestProgram(t *testing.T) {
	has(t, "")
	has(t, "x = y\n")
	has(t, lines("for i in a:", " try:", "  b = 1", " except e:", "  c = e", "while a:", " break"))
	has(t, lines("x = 1", "def f():", " return x + y + f"), "f 0 0 [] [] []")
	has(t, lines("x = 1", "def f():", " return lambda: x"), "f 0 0 [] [] []", "lambda 1 0 [] [] []")
	has(t, lines("def f():", " y = lambda: x", "x = 1"), "f 0 0 [y] [] []", "lambda 1 0 [] [] []")
}

// P30: each way of binding a name, and what is none.
func TestBindings(t *testing.T) {
	has(t, lines("def f(a, b):", " pass"), "f 0 2 [a b] [] []")
	has(t, lines("def f():", " a = 1"), "f 0 0 [a] [] []")
	has(t, lines("def f():", " for a in b:", "  pass"), "f 0 0 [a] [] []")
	has(t, lines("def f():", " def a(b):", "  pass"), "f 0 0 [a] [] []", "a 1 1 [b] [] []")
	has(t, lines("def f():", " try:", "  pass", " except a:", "  pass"), "f 0 0 [a] [] []")
	has(t, "f = lambda a, b: a\n", "lambda 0 2 [a b] [] []")
	has(t, lines("def f():", " a[b] = c", " del d[e]", " g(h)", " raise i", " while j:", "  break", " if k:", "  return l"), "f 0 0 [] [] []")
	has(t, lines("def f():", " if a:", "  b = 1", " elif c:", "  d = 1", " else:", "  while e:", "   g = 1"), "f 0 0 [b d g] [] []")
	has(t, lines("def f():", " a", " a = 1", " a"), "f 0 0 [a] [] []")
	has(t, lines("def f(f):", " f = f"), "f 0 1 [f] [] []")
	has(t, lines("def f():", " def f():", "  f()"), "f 0 0 [] [f] []", "f 1 0 [] [] [f]")
	has(t, "\"lambda\"\nx = lambda lambdas: lambdas\n", "lambda 0 1 [lambdas] [] []")
}

// P30: `global`, in the scope itself and between it and the one that has the name.
func TestGlobal(t *testing.T) {
	has(t, lines("def f():", " global a", " a = 1", " return a"), "f 0 0 [] [] []")
	has(t, lines("def f():", " global a, b", " a = b", " for b in a:", "  pass"), "f 0 0 [] [] []")
	has(t, lines("def f(a):", " def g():", "  global a", "  return lambda: a", " return a"),
		"f 0 1 [a g] [] []", "g 1 0 [] [] []", "lambda 2 0 [] [] []")
	has(t, lines("def f(a):", " def g():", "  global a", "  def h():", "   a = 1", "   return lambda: a"),
		"f 0 1 [a g] [] []", "g 1 0 [h] [] []", "h 2 0 [] [a] []", "lambda 3 0 [] [] [a]")
	has(t, lines("def f(a):", " def g():", "  global a", " return lambda: a"),
		"f 0 1 [g] [a] []", "g 1 0 [] [] []", "lambda 1 0 [] [] [a]")
	has(t, lines("def f():", " def g():", "  return a", " global a", " a = 1"), "f 0 0 [g] [] []", "g 1 0 [] [] []")
	has(t, lines("def f():", " global f", " f()"), "f 0 0 [] [] []")
	has(t, lines("def f():", " global g", " def g():", "  return g"), "f 0 0 [] [] []", "g 1 0 [] [] []")
	// What says `global` of it between is nearer than the one that has it, whatever is said within.
	has(t, lines("def f():", " a = 1", " def g():", "  global a", "  def h():", "   nonlocal a", "   a = 2"),
		"f 0 0 [a g] [] []", "g 1 0 [h] [] []", "h 2 0 [] [] []")
}

// P30: `nonlocal`, and names of the nearest scope around that has them.
func TestNonlocal(t *testing.T) {
	has(t, lines("def f():", " a = 1", " def g():", "  nonlocal a", "  a = 2"), "f 0 0 [g] [a] []", "g 1 0 [] [] [a]")
	has(t, lines("def f(a):", " def g():", "  nonlocal a", "  for a in b:", "   pass"), "f 0 1 [g] [a] []", "g 1 0 [] [] [a]")
	has(t, lines("def f(a):", " def g():", "  nonlocal a", "  def a():", "   pass"), "f 0 1 [g] [a] []", "g 1 0 [] [] [a]", "a 2 0 [] [] []")
	has(t, lines("def f(a):", " def g():", "  nonlocal a", "  try:", "   pass", "  except a:", "   pass"), "f 0 1 [g] [a] []", "g 1 0 [] [] [a]")
	has(t, lines("def f(a):", " def g():", "  nonlocal a", "  return a"), "f 0 1 [g] [a] []", "g 1 0 [] [] [a]")
	has(t, lines("def f(a):", " def g():", "  nonlocal a"), "f 0 1 [g] [a] []", "g 1 0 [] [] [a]")
	has(t, lines("def f():", " def g():", "  nonlocal a, g", "  a = g", " a = 1"), "f 0 0 [] [g a] []", "g 1 0 [] [] [a g]")
	has(t, lines("def f(a):", " def g():", "  nonlocal a", "  def h():", "   nonlocal a", "   a = 1"),
		"f 0 1 [g] [a] []", "g 1 0 [h] [] [a]", "h 2 0 [] [] [a]")
	has(t, lines("def f(a):", " def g(a):", "  def h():", "   nonlocal a", "   a = 1"),
		"f 0 1 [a g] [] []", "g 1 1 [h] [a] []", "h 2 0 [] [] [a]")
}

// P30, P31: cells, and names that are free in all scopes between.
func TestCells(t *testing.T) {
	has(t, lines("def f(a):", " return lambda: a"), "f 0 1 [] [a] []", "lambda 1 0 [] [] [a]")
	has(t, lines("def f(a):", " return lambda a: a"), "f 0 1 [a] [] []", "lambda 1 1 [a] [] []")
	has(t, lines("def f(a):", " def g():", "  def h():", "   return lambda: a"),
		"f 0 1 [g] [a] []", "g 1 0 [h] [] [a]", "h 2 0 [] [] [a]", "lambda 3 0 [] [] [a]")
	has(t, lines("def f(a):", " def g():", "  def h():", "   a = 1", "  return 1"),
		"f 0 1 [a g] [] []", "g 1 0 [h] [] []", "h 2 0 [a] [] []")
	has(t, "lambda a: lambda b: lambda c: [a, b]\n", "lambda 0 1 [] [a] []", "lambda 1 1 [] [b] [a]", "lambda 2 1 [c] [] [a b]")
	has(t, lines("def f(a):", " x = lambda: a", " y = lambda: a", " def g():", "  return 1"),
		"f 0 1 [x y g] [a] []", "lambda 1 0 [] [] [a]", "lambda 1 0 [] [] [a]", "g 1 0 [] [] []")
	has(t, lines("def f():", " g = lambda: a", " a = 1"), "f 0 0 [g] [a] []", "lambda 1 0 [] [] [a]")
	has(t, lines("def f():", " def g():", "  a[0] = 1", "  del b[0]", " a = {}", " b = a"),
		"f 0 0 [g] [a b] []", "g 1 0 [] [] [a b]")
	has(t, lines("a = 1", "def f():", " a = 2", " def g():", "  return a"), "f 0 0 [g] [a] []", "g 1 0 [] [] [a]")
	// One beside another has nothing of it.
	has(t, lines("def f(a):", " pass", "def g():", " return lambda: a"), "f 0 1 [a] [] []", "g 0 0 [] [] []", "lambda 2 0 [] [] []")
}

// P31: parameters first, in their order; others as the text first binds them, by the order of P32; frees rise.
func TestOrder(t *testing.T) {
	has(t, lines("def f(z, y, x):", " a = 1", " y = 2", " b = 1", " a = 3"), "f 0 3 [z y x a b] [] []")
	has(t, lines("def f(z, y, x):", " a = 1", " b = 1", " y = 2", " c = 2", " return lambda: x + z + c + a"),
		"f 0 3 [y b] [z x a c] []", "lambda 1 0 [] [] [a c x z]")
	has(t, lines("def f():", " for z in b:", "  y = 1", "  for x in y:", "   w = 1", " v = 1"), "f 0 0 [z y x w v] [] []")
	has(t, lines("def f():", " try:", "  z = 1", " except y:", "  x = 1"), "f 0 0 [z y x] [] []")
	has(t, lines("def f():", " try:", "  try:", "   z = 1", "  except y:", "   x = 1", " except w:", "  v = 1"), "f 0 0 [z y x w v] [] []")
	has(t, lines("def f():", " if z:", "  y = 1", " elif x:", "  w = 1", " else:", "  v = 1"), "f 0 0 [y w v] [] []")
	has(t, lines("def f():", " z = x", " def y(a):", "  b = 1", " x = z"), "f 0 0 [z y x] [] []", "y 1 1 [a b] [] []")
	has(t, lines("def f():", " b_1 = 1", " b1 = 1", " b = 1", " _ = 1", " return lambda: [b, b1, b_1, _]"),
		"f 0 0 [] [b_1 b1 b _] []", "lambda 1 0 [] [] [_ b b1 b_1]")
}

// P31: scopes in the order of the text in which they begin.
func TestScopeOrder(t *testing.T) {
	has(t, lines("x = (lambda a: lambda b: 1) + (lambda c: 1)", "def f(d):", " return lambda e: 1", "def g(h):", " pass"),
		"lambda 0 1 [a] [] []", "lambda 1 1 [b] [] []", "lambda 0 1 [c] [] []", "f 0 1 [d] [] []", "lambda 4 1 [e] [] []", "g 0 1 [h] [] []")
	has(t, lines("(lambda a: 1)[lambda b: 1] = lambda c: 1", "del (lambda d: 1)[lambda e: 1]"),
		"lambda 0 1 [a] [] []", "lambda 0 1 [b] [] []", "lambda 0 1 [c] [] []", "lambda 0 1 [d] [] []", "lambda 0 1 [e] [] []")
	has(t, lines("x = {(lambda a: 1): lambda b: 1, 2: [lambda c: 1, -(lambda d: 1)(lambda e: 1)]}"),
		"lambda 0 1 [a] [] []", "lambda 0 1 [b] [] []", "lambda 0 1 [c] [] []", "lambda 0 1 [d] [] []", "lambda 0 1 [e] [] []")
	has(t, lines("if lambda a: 1:", " def f():", "  pass", "elif lambda b: 1:", " def g():", "  pass", "else:", " def h():", "  pass"),
		"lambda 0 1 [a] [] []", "f 0 0 [] [] []", "lambda 0 1 [b] [] []", "g 0 0 [] [] []", "h 0 0 [] [] []")
	has(t, lines("try:", " lambda a: 1", "except e:", " lambda b: 1", "while lambda c: 1:", " raise lambda d: 1", "for x in lambda e: 1:", " lambda g: 1"),
		"lambda 0 1 [a] [] []", "lambda 0 1 [b] [] []", "lambda 0 1 [c] [] []", "lambda 0 1 [d] [] []", "lambda 0 1 [e] [] []", "lambda 0 1 [g] [] []")
}

// P32: `break` and `continue` in no loop of their scope.
func TestLoops(t *testing.T) {
	for _, word := range []string{"break", "continue"} {
		fails(t, word+"\n", 0)
		fails(t, lines("if a:", " "+word), 1)
		fails(t, lines("while a:", " pass", word), 2)
		fails(t, lines("for a in b:", " pass", word), 2)
		fails(t, lines("try:", " "+word, "except a:", " pass"), 1)
		fails(t, lines("try:", " pass", "except a:", " "+word), 2)
		fails(t, lines("def f():", " "+word), 1)
		fails(t, lines("while a:", " def f():", "  "+word), 2)
		fails(t, lines("for a in b:", " def f():", "  if a:", "   "+word), 3)
		right(t, lines("while a:", " "+word))
		right(t, lines("for a in b:", " "+word))
		right(t, lines("while a:", " if b:", "  "+word, " elif c:", "  "+word, " else:", "  "+word))
		right(t, lines("for a in b:", " try:", "  "+word, " except c:", "  "+word))
		right(t, lines("while a:", " while b:", "  pass", " "+word))
		right(t, lines("def f():", " while a:", "  def g():", "   while b:", "    "+word, "  "+word))
	}
}

// P32: `return`, `nonlocal` and `global` in the program itself.
func TestProgramAlone(t *testing.T) {
	for _, word := range []string{"return", "return a", "global a", "nonlocal a"} {
		fails(t, word+"\n", 0)
		fails(t, lines("if b:", " pass", "else:", " "+word), 2)
		fails(t, lines("while b:", " "+word), 1)
		fails(t, lines("try:", " pass", "except b:", " "+word), 2)
		fails(t, lines("def f(a):", " pass", word), 2)
	}
	right(t, lines("def f():", " return"))
	right(t, lines("def f():", " if a:", "  return 1"))
	right(t, lines("if a:", " def f():", "  global a", "  return a"))
}

// P32: a parameter that is there twice: of a def, or of a lambda somewhere in a statement's terms.
func TestParameters(t *testing.T) {
	fails(t, lines("def f(a, a):", " pass"), 0)
	fails(t, lines("pass", "def f(a, b, c, a):", " pass"), 1)
	fails(t, lines("def f(a):", " def g(b, b):", "  pass"), 1)
	for _, word := range []string{"lambda a, a: 1", "lambda a, b, a: 1", "lambda: lambda a, b, b: 1", "[1, -f(lambda a, a: 1)]", "{1: lambda a, a: 1}", "b[lambda a, a: 1]"} {
		for _, line := range []string{"%", "x = %", "x[%] = 1", "x[1] = %", "(%)[1] = 1", "del x[%]", "raise %", "if %:\n  pass", "while %:\n  pass", "for x in %:\n  pass"} {
			line = strings.ReplaceAll(line, "%", word)
			fails(t, "pass\n"+strings.ReplaceAll(line, "\n ", "\n")+"\n", 1)
			fails(t, lines("def f():", " pass", " "+line), 2)
		}
		fails(t, lines("def f():", " return "+word), 1)
		fails(t, lines("if a:", " pass", "elif "+word+":", " pass"), 2)
	}
	right(t, lines("def f(a, b):", " return lambda a, b: lambda b, a: 1"))
	right(t, lines("def f(a):", " a = 1", " for a in b:", "  pass"))
}

// P32: names that may not be said to be `global` or `nonlocal`: each row is the body of a def in which a and b could be, and the statement that is not right.
func TestSaid(t *testing.T) {
	for _, row := range []struct {
		at   int
		body []string
	}{
		{2, []string{"% p"}},
		{2, []string{"% a, q"}},
		{2, []string{"% a, a"}},
		{2, []string{"% a, b, a"}},
		{3, []string{"global a", "% a"}},
		{3, []string{"nonlocal a", "% a"}},
		{3, []string{"% a", "global a"}},
		{3, []string{"% a", "nonlocal b, a"}},
		{5, []string{"if c:", "  % a", "else:", "  pass", "  % a"}},
		{3, []string{"a", "% a"}},
		{3, []string{"a = 1", "% a"}},
		{3, []string{"a[1] = 1", "% a"}},
		{3, []string{"c[a] = 1", "% a"}},
		{3, []string{"c[1] = a", "% a"}},
		{3, []string{"del a[1]", "% a"}},
		{3, []string{"raise a", "% a"}},
		{3, []string{"return a", "% a"}},
		{3, []string{"x = [1, {2: -c(a)}]", "% a"}},
		{3, []string{"if a:", "  % a"}},
		{4, []string{"if c:", "  pass", "else:", "  % p"}},
		{4, []string{"if c:", "  a", "else:", "  % a"}},
		{5, []string{"if c:", "  pass", "elif d:", "  % p"}},
		{3, []string{"while a:", "  % a"}},
		{3, []string{"for a in c:", "  % a"}},
		{3, []string{"for c in a:", "  % a"}},
		{4, []string{"def a():", "  pass", "% a"}},
		{5, []string{"try:", "  pass", "except a:", "  pass", "% a"}},
		{4, []string{"try:", "  pass", "except a:", "  % a"}},
		{4, []string{"try:", "  a", "except c:", "  % a"}},
	} {
		for _, word := range []string{"global", "nonlocal"} {
			body := strings.ReplaceAll(strings.Join(row.body, "\n  "), "%", word)
			fails(t, lines("def f(a, b):", " def g(p, q):", "  "+body, " p = q", " q = p"), row.at)
		}
	}
}

// P32: what may be said, though the name stands ahead: in another scope, or behind by the order of the text.
func TestSaidRightly(t *testing.T) {
	for _, word := range []string{"global", "nonlocal"} {
		for _, body := range [][]string{
			{"% a, b", "a = b"},
			{"x = lambda: a", "% a"},
			{"x = lambda a: a", "% a"},
			{"lambda: lambda: a", "% a"},
			{"def h():", "  return a", "% a"},
			{"def h(a):", "  a = 1", "% a"},
			{"try:", "  % a", "except a:", "  pass"},
			{"if c:", "  % a", "else:", "  a = 1"},
			{"c = b", "if c:", "  % a", "a()"},
			{"\"a\"", "% a"},
		} {
			text := strings.ReplaceAll(strings.Join(append(slices.Clone(body), "pass"), "\n  "), "%", word)
			right(t, lines("def f(a, b):", " def g(p, q):", "  "+text))
		}
	}
	right(t, lines("def f():", " global a", " def g():", "  global a", "  a = 1"))
	right(t, lines("def f(a):", " def g():", "  global a", "  a = 1", " def h():", "  nonlocal a", "  a = 1"))
}

// P32: `nonlocal` of a name that belongs to no scope around but the program.
func TestClaims(t *testing.T) {
	fails(t, lines("def f():", " nonlocal a", " a = 1"), 1)
	fails(t, lines("a = 1", "def f():", " nonlocal a"), 2)
	fails(t, lines("def f():", " nonlocal f"), 1)
	fails(t, lines("def f():", " def g():", "  nonlocal f"), 2)
	fails(t, lines("def f():", " a", " def g():", "  nonlocal a"), 3)
	fails(t, lines("def f():", " a[0] = 1", " def g():", "  nonlocal a"), 3)
	fails(t, lines("def f():", " global a", " a = 1", " def g():", "  nonlocal a"), 4)
	fails(t, lines("def f():", " def g():", "  nonlocal a", "  a = 1", " global a", " a = 1"), 2)
	fails(t, lines("def f(b):", " def g():", "  nonlocal b, a"), 2)
	fails(t, lines("def f():", " def g():", "  a = 1", " def h():", "  nonlocal a"), 4)
	fails(t, lines("def f():", " x = lambda a: 1", " def g():", "  nonlocal a"), 3)
	fails(t, lines("def f():", " def g():", "  nonlocal a", "  def h():", "   nonlocal a"), 2)
	right(t, lines("def f():", " def g():", "  nonlocal g"))
	right(t, lines("def f():", " def g():", "  def h():", "   nonlocal a", " for a in b:", "  pass"))
	right(t, lines("def f():", " def g():", "  nonlocal a", " try:", "  pass", " except a:", "  pass"))
	right(t, lines("def f(a):", " def g():", "  global a", "  def h():", "   nonlocal a"))
}

// P32: of several that are not right the first one is told, by the order of the text, though it shows later.
func TestFirst(t *testing.T) {
	fails(t, lines("break", "return"), 0)
	fails(t, lines("def f():", " nonlocal a", "break"), 1)
	fails(t, lines("def f():", " break", " nonlocal a"), 1)
	fails(t, lines("def f():", " nonlocal a", " nonlocal b", " global a"), 1)
	fails(t, lines("def f(a, a):", " global a"), 0)
	fails(t, lines("if lambda a, a: 1:", " break"), 0)
	fails(t, lines("def f():", " def g():", "  nonlocal a", " a = 1", " global a"), 2)
	fails(t, lines("def f(a):", " def g():", "  nonlocal a", " global a"), 2)
}

// P32: statements are numbered by the order of the text, those in a statement after it, `elif` as the `if` that it is: each line is one, but for those of `else` and `except`.
func TestNumbers(t *testing.T) {
	all := []string{"pass", "if a:", " pass", "elif b:", " pass", "elif c:", " pass", "else:", " pass", "try:", " pass", "except e:", " while a:", "  pass", "  for b in c:", "   pass", "def f(a):", " def g():", "  pass", " return", "pass"}
	right(t, lines(all...))
	for n, line := range all {
		word := strings.TrimLeft(line, " ")
		at := 0
		for _, ahead := range all[:n] {
			if !strings.HasPrefix(ahead, "else") && !strings.HasPrefix(ahead, "except") {
				at++
			}
		}
		switch {
		case word == "pass":
			word = "expr(lambda x, x: 1)"
		case strings.HasPrefix(word, "def"):
			word = "def h(x, x):"
		case strings.HasPrefix(word, "for"):
			word = "for x in lambda x, x: 1:"
		case word == "return":
			word = "nonlocal x"
		case word == "else:" || word == "try:" || word == "except e:":
			continue
		default:
			word, _, _ = strings.Cut(word, " ")
			word += " lambda x, x: 1:"
		}
		changed := slices.Clone(all)
		changed[n] = line[:len(line)-len(strings.TrimLeft(line, " "))] + word
		fails(t, lines(changed...), at)
		changed[len(changed)-1] = "break"
		fails(t, lines(changed...), at)
	}
	last := strings.Repeat("a\n", api.MaxSource/2-4) + "break\n"
	fails(t, last, api.MaxSource/2-4)
}

// P1, P3, P32: what has no text is ErrShape, bare, ahead of all else; of nothing nothing is wrong.
func TestShape(t *testing.T) {
	broken := tree.Stmt{Kind: "break"}
	a := tree.Expr{Op: "name", S: "a"}
	deep := []tree.Stmt{{Kind: "pass"}}
	for range api.MaxDeep {
		deep = []tree.Stmt{{Kind: "def", Name: "f", Body: deep}}
	}
	wide := a
	for range 80 {
		wide = tree.Expr{Op: "lambda", P: []string{"a"}, L: []tree.Expr{{Op: "+", L: []tree.Expr{wide, wide}}}}
	}
	for what, l := range map[string][]tree.Stmt{
		"nothing in it":          {{}},
		"a kind that is none":    {broken, {Kind: "elif"}},
		"no term":                {broken, {Kind: "set", Name: "a"}},
		"a def without a body":   {{Kind: "def", Name: "f", P: []string{"a", "a"}}},
		"a name that is none":    {{Kind: "def", Name: "F", Body: []tree.Stmt{broken}}},
		"a parameter without":    {{Kind: "def", Name: "f", P: []string{""}, Body: []tree.Stmt{broken}}},
		"a word that is global":  {{Kind: "global", P: []string{"if"}}},
		"global of nothing":      {{Kind: "global"}},
		"nonlocal of nothing":    {{Kind: "nonlocal"}},
		"a lambda of nothing":    {{Kind: "expr", L: []tree.Expr{{Op: "lambda", P: []string{"a", "a"}}}}},
		"a break with a body":    {{Kind: "break", Body: []tree.Stmt{broken}}},
		"a name with terms":      {{Kind: "expr", L: []tree.Expr{{Op: "name", S: "a", L: []tree.Expr{a}}}}},
		"blocks too deep":        deep,
		"terms too deep":         {{Kind: "expr", L: []tree.Expr{wide}}},
		"too long":               slices.Repeat([]tree.Stmt{broken}, api.MaxSource/6+1),
		"a body in another kind": {{Kind: "return", Else: []tree.Stmt{broken}}},
	} {
		if err := scope.Check(l); err != api.ErrShape {
			t.Errorf("%s: %v", what, err)
		}
		if got, err := scope.Scopes(l); err != api.ErrShape || len(got) != 0 {
			t.Errorf("%s: %v\n%s", what, err, tell(got))
		}
	}
	for _, l := range [][]tree.Stmt{nil, {}} {
		got, err := scope.Scopes(l)
		if err != nil || tell(got) != lines(program) || scope.Check(l) != nil {
			t.Errorf("of nothing: %v\n%s", err, tell(got))
		}
	}
}

// P3, P4: trees are only read, and not behind their lengths; what is answered is new, and no two lists are one.
func TestOnlyReads(t *testing.T) {
	params := []string{"a", "b", "c", "a"}
	body := []tree.Stmt{
		{Kind: "global", P: []string{"x", "x"}[:1]},
		{Kind: "return", P: []string{}, L: []tree.Expr{{Op: "lambda", P: params[1:2], L: []tree.Expr{{Op: "name", S: "a"}}}}},
		{Kind: "break"},
	}
	l := []tree.Stmt{{Kind: "def", Name: "f", P: params[:3], Body: body[:2]}, {Kind: "return"}}
	got, err := scope.Scopes(l[:1])
	want := lines(program, "f 0 3 [b c] [a] []", "lambda 1 1 [b] [] [a]")
	if err != nil || tell(got) != want {
		t.Fatalf("%v\n%s", err, tell(got))
	}
	if strings.Join(params, "") != "abca" || body[2].Kind != "break" || l[1].Kind != "return" {
		t.Error("changed")
	}
	params[0], l[0].Name = "z", "g"
	if tell(got) != want {
		t.Errorf("a later change shows:\n%s", tell(got))
	}
	params[0], l[0].Name = "a", "f"
	apart(t, got)
	again, err := scope.Scopes(l[:1])
	if err != nil || tell(again) != want || strings.Join(params, "") != "abca" {
		t.Errorf("what was written into an answer shows: %v\n%s", err, tell(again))
	}
}

// apart fails if two lists share memory, behind their lengths too. It overwrites them.
func apart(t *testing.T, l []scope.Scope) {
	t.Helper()
	var lists [][]string
	for _, s := range l {
		lists = append(lists, s.Locals, s.Cells, s.Frees)
	}
	for i, names := range lists {
		names = names[:cap(names)]
		for k := range names {
			names[k] = strconv.Itoa(i)
		}
	}
	for i, names := range lists {
		for _, name := range names[:cap(names)] {
			if name != strconv.Itoa(i) {
				t.Errorf("lists %d and %s are one", i, name)
			}
		}
	}
}

// P2: many side by side answer as one alone does.
func TestSideBySide(t *testing.T) {
	l := read(t, lines("def f(a, b):", " c = a", " def g(d):", "  nonlocal c", "  c = lambda: b + d", " return g"))
	want := lines(program, "f 0 2 [a g] [b c] []", "g 1 1 [] [d] [b c]", "lambda 2 0 [] [] [b d]")
	var wait sync.WaitGroup
	told := make([]string, api.Workers)
	for i := range told {
		wait.Go(func() {
			for range 50 {
				got, _ := scope.Scopes(l)
				told[i] = tell(got)
			}
		})
	}
	wait.Wait()
	for _, s := range told {
		if s != want {
			t.Errorf("side by side:\n%s", s)
		}
	}
}

// P1: scopes in each other as deep as a text can have them, and as many.
func TestMany(t *testing.T) {
	var text strings.Builder
	for i := range api.MaxDeep - 1 {
		text.WriteString(strings.Repeat(" ", i) + "def f" + strconv.Itoa(i) + "(a" + strconv.Itoa(i) + "):\n")
	}
	text.WriteString(strings.Repeat(" ", api.MaxDeep-1) + strings.Repeat("lambda: ", api.MaxDeep) + "a0\n")
	got, err := scope.Scopes(read(t, text.String()))
	if err != nil || len(got) != 2*api.MaxDeep {
		t.Fatalf("%v, %d", err, len(got))
	}
	holds(t, "deep", got)
	if s := got[len(got)-1]; strings.Join(s.Frees, " ") != "a0" || strings.Join(got[1].Cells, " ") != "a0" || strings.Join(got[2].Frees, " ") != "a0" {
		t.Errorf("deep:\n%s", tell(got))
	}
	n := (api.MaxSource - 20) / len(" lambda: a\n") / 2
	wide := "def f(a):\n" + strings.Repeat(" lambda: a\n", n)
	got, err = scope.Scopes(read(t, wide))
	if err != nil || len(got) != n+2 || strings.Join(got[n+1].Frees, " ") != "a" {
		t.Errorf("wide: %v, %d", err, len(got))
	}
}
