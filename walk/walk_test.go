package walk_test

import (
	"errors"
	"reflect"
	"slices"
	"strconv"
	"strings"
	"sync"
	"testing"

	"nurserypy/api"
	"nurserypy/scope"
	"nurserypy/tree"
	"nurserypy/walk"
)

const enough = 5000 // steps, more than a small program needs

func read(t *testing.T, s string) []tree.Stmt {
	t.Helper()
	l, err := tree.Read(s)
	if err != nil {
		t.Fatalf("%q: %v", s, err)
	}
	return l
}

func run(t *testing.T, s string, fuel int, input ...string) api.Outcome {
	t.Helper()
	o, err := walk.Run(read(t, s), input, fuel)
	if err != nil {
		t.Fatalf("%q: %v", s, err)
	}
	return o
}

func tell(o api.Outcome) string {
	return o.Kind + "|" + o.Value + "|" + o.Output
}

// A program and what it does: lines that it prints, and, if it raises, what that is.
type does struct{ program, printed, raised string }

func (d does) check(t *testing.T, input ...string) {
	t.Helper()
	want := "done||"
	if d.raised != "" {
		want = "raised|" + d.raised + "|"
	}
	if d.printed != "" {
		want += d.printed + "\n"
	}
	if got := tell(run(t, d.program+"\n", api.MaxFuel, input...)); got != want {
		t.Errorf("%s\n%q, want %q", d.program, got, want)
	}
}

// is: what a term comes to, behind some statements: its repr, or what it raises.
func is(t *testing.T, ahead string, pairs ...string) {
	t.Helper()
	for i := 0; i < len(pairs); i += 2 {
		o := run(t, ahead+"\ntry:\n    got = ["+pairs[i]+"]\n    got = str(got)\nexcept e:\n    got = \"[\" + e + \"]\"\nprint(got)\n", enough, "one", "two")
		if want := "done||[" + pairs[i+1] + "]\n"; tell(o) != want {
			t.Errorf("%s: %q, want %q", pairs[i], tell(o), want)
		}
	}
}

// lines of a program.
func lines(l ...string) string { return strings.Join(l, "\n") }

// P40: how runs end.
func TestKinds(t *testing.T) {
	for s, want := range map[string]api.Outcome{
		"":                            {Kind: "done"},
		"print(1)":                    {Kind: "done", Output: "1\n", Steps: 1},
		"print(1)\nraise [\"a\", 2]":  {Kind: "raised", Value: `["a", 2]`, Output: "1\n", Steps: 2},
		"raise \"a\\n\"":              {Kind: "raised", Value: `"a\n"`, Steps: 1},
		"raise None":                  {Kind: "raised", Value: "None", Steps: 1},
		"raise len":                   {Kind: "raised", Value: "<builtin len>", Steps: 1},
		"a = []\npush(a, a)\nraise a": {Kind: "raised", Value: `"RecursionError"`, Steps: 3},
		"print(1)\nwhile 1:\n  pass":  {Kind: "tired", Output: "1\n", Steps: enough},
	} {
		if got := run(t, s, enough); got != want {
			t.Errorf("%q: %v", s, got)
		}
	}
	long := "raise [" + strings.Repeat("\"\\n\\n\\n\\n\\n\\n\\n\\n\\n\\n\", ", 90) + "1]\n"
	if o := run(t, long, 1); o.Value != `"OverflowError"` || o.Kind != "raised" {
		t.Error(o)
	}
}

// P40: steps, one by one: each program has so many, and with one less it is tired.
func TestSteps(t *testing.T) {
	for s, want := range map[string]int{
		"":                                              0,
		"pass":                                          1,
		"pass\npass":                                    2,
		"if 0:\n  pass":                                 1,
		"if 1:\n  pass\nelse:\n  pass\n  pass":          2,
		"if 0:\n  pass\nelse:\n  pass\n  pass":          3,
		"if 0:\n  pass\nelif 1:\n  pass":                3,
		"while 0:\n  pass":                              2,
		"i = 2\nwhile i:\n  i = i - 1":                  7,
		"while 1:\n  break\n  pass":                     3,
		"for x in []:\n  pass":                          1,
		"for x in [1, 2]:\n  pass":                      5,
		"for x in {1: 2}:\n  pass":                      3,
		"for x in [1, 2]:\n  continue\n  pass":          5,
		"for x in [1, 2]:\n  break":                     3,
		"print(len(\"\"), str(1), range(5))":            1,
		"def f():\n  pass\n  pass":                      1,
		"def f():\n  pass\n  pass\nf()":                 5,
		"def f():\n  return 1\n  pass\nf()":             4,
		"f = lambda: 1\nf() + f()":                      4,
		"def f():\n  global a, b\nf()":                  4,
		"(lambda x: x)((lambda: 1)())":                  3,
		"try:\n  pass\nexcept e:\n  pass":               2,
		"try:\n  raise 1\nexcept e:\n  pass":            3,
		"try:\n  (lambda: 1)(1)\nexcept e:\n  pass":     3, // a call that goes wrong is no step
		"try:\n  (lambda: 1 // 0)()\nexcept e:\n  pass": 4,
		"try:\n  1()\nexcept e:\n  pass":                3,
		"try:\n  len()\nexcept e:\n  pass":              3,
		"{}\ndel {1: 2}[1]\n[1][0] = 1":                 3,
	} {
		o := run(t, s, enough)
		if o.Kind != "done" || o.Steps != want || o != run(t, s, want) {
			t.Errorf("%q: %v, want %d", s, o, want)
		}
		if want == 0 {
			continue
		}
		if o := run(t, s, want-1); o.Kind != "tired" || o.Steps != want-1 {
			t.Errorf("%q: %v", s, o)
		}
	}
}

// P40: where a step is: what is done ahead of it is done, what is behind it is not.
func TestTired(t *testing.T) {
	s := lines(
		"def say(x):", "  print(x)", "  return x < 2",
		"say(0)", "while say(1) and say(2):", "  pass", "for x in [say(3)]:", "  say(4)", "try:", "  say(5)", "except e:", "  say(6)",
	)
	all := run(t, s, enough)
	if all.Kind != "done" || all.Output != "0\n1\n2\n3\n4\n5\n" {
		t.Fatal(all)
	}
	// Behind so many steps the next text is printed: def; (expr, call, print) ; return, (while, look, call, print); return, call, print; ..
	printed := map[int]string{4: "0\n", 9: "1\n", 12: "2\n", 16: "3\n", 21: "4\n", 26: "5\n"}
	out := ""
	for fuel := range all.Steps {
		out += printed[fuel]
		o := run(t, s, fuel)
		if o.Kind != "tired" || o.Steps != fuel || o.Output != out || o.Value != "" {
			t.Errorf("%d: %v, want %q", fuel, o, out)
		}
	}
	// No try catches that a run is tired; and it is told ahead of what the next step would do.
	if o := run(t, "try:\n  while 1:\n    pass\nexcept e:\n  print(e)", 50); tell(o) != "tired||" {
		t.Error(o)
	}
	if o := run(t, "while 1 // 0:\n  pass", 1); tell(o) != "tired||" {
		t.Error(o)
	}
	if o := run(t, "x = []\nfor i in x:\n  pass", 2); tell(o) != "done||" {
		t.Error(o)
	}
}

func fails(t *testing.T, want error, l []tree.Stmt, input []string, fuel int) {
	t.Helper()
	o, err := walk.Run(l, input, fuel)
	var fault *api.Fault
	if o != (api.Outcome{}) || !errors.Is(err, want) || errors.As(err, &fault) != (want == api.ErrName) {
		t.Errorf("%v, %v, want %v", o, err, want)
	}
	if starts, again, other := walk.Starts(l, input, fuel); len(starts) != 0 || again != o || other.Error() != err.Error() {
		t.Errorf("%v, %v, %v, want %v", starts, again, other, err)
	}
}

// P40, P3: errors, in their order.
func TestErrors(t *testing.T) {
	good := read(t, "print(input())")
	many := make([]string, api.MaxInput+1)
	long := strings.Repeat("x", api.MaxLength)
	fails(t, api.ErrBound, good, many, 1)
	fails(t, api.ErrBound, good, []string{"a", long + "x"}, 1)
	fails(t, api.ErrBound, good, nil, -1)
	fails(t, api.ErrBound, good, nil, api.MaxFuel+1)
	fails(t, api.ErrBound, nil, many, 0)
	wrong := []tree.Stmt{{Kind: "pass"}, {Kind: "return"}}
	fails(t, api.ErrName, wrong, many, -1)
	if _, err := walk.Run(wrong, nil, 1); err.(*api.Fault).At != 1 {
		t.Error(err)
	}
	for _, l := range [][]tree.Stmt{
		{{}}, {{Kind: "expr"}}, {{Kind: "set", Name: "X"}}, {{Kind: "while"}}, {{Kind: "expr", L: []tree.Expr{{Op: "lambda"}}}},
		{{Kind: "expr", L: []tree.Expr{{Op: "dict", L: []tree.Expr{{Op: "None"}}}}}}, {{Kind: "pass", Name: "a"}}, make([]tree.Stmt, 3),
	} {
		fails(t, api.ErrShape, l, many, -1)
		if _, err := walk.Run(l, nil, 1); err != scope.Check(l) {
			t.Error(err)
		}
	}
	for _, fuel := range []int{1, api.MaxFuel} {
		if o, err := walk.Run(good, append(make([]string, api.MaxInput-1), long), fuel); tell(o) != "done||\n" || err != nil {
			t.Error(o, err)
		}
	}
	if o, err := walk.Run(good, []string{long}, 1); o.Output != long+"\n" || err != nil {
		t.Error(o, err)
	}
	if o, err := walk.Run(nil, nil, 0); o != (api.Outcome{Kind: "done"}) || err != nil {
		t.Error(o, err)
	}
	if o, err := walk.Run([]tree.Stmt{}, []string{}, api.MaxFuel); o != (api.Outcome{Kind: "done"}) || err != nil {
		t.Error(o, err)
	}
}

// P4: what is handed over is only read; P2: runs side by side do not touch each other.
func TestOnlyReads(t *testing.T) {
	s := lines(
		"def f(a, b):", "  l = [a, b]", "  l[0] = input()", "  del l[1]", "  return lambda: l",
		"x = f(1, 2)()", "print(x, id(x), id(f))", "for i in range(20):", "  push(x, {i: input})", "print(x)", "raise x",
	)
	l, again := read(t, s), read(t, s)
	room := []string{"one", "two", "three"}
	want, err := walk.Run(l, room[:1], enough)
	if err != nil || want.Kind != "raised" || !strings.HasPrefix(want.Output, "[\"one\"] 1 2\n[\"one\", {0: <builtin input>}") {
		t.Fatal(want, err)
	}
	if !reflect.DeepEqual(l, again) || !slices.Equal(room, []string{"one", "two", "three"}) {
		t.Error("something was changed")
	}
	got := make([]api.Outcome, 20)
	var all sync.WaitGroup
	for i := range got {
		all.Go(func() { got[i], _ = walk.Run(l, room[:1], enough) })
	}
	all.Wait()
	for _, o := range got {
		if o != want {
			t.Error(o)
		}
	}
}

// P1: what would take longer than anybody waits, and what is as deep as can be, ends.
func TestEnds(t *testing.T) {
	wide := func(name string) string { return "  " + name + " = [" + strings.Repeat(name+", ", 50) + name + "]" }
	s := lines("a = [1]", "b = [1]", "c = {}", "for i in range(18):", wide("a"), wide("b"), "  c = {1: c, 2: c, 3: c, 4: c}", "print(a == b, [a] == [b], a != b, a in [1, b], c == c, [a, 1] == [b, 2])")
	if o := run(t, s, enough); tell(o) != "done||True True False True True False\n" {
		t.Error(o)
	}
	deep := strings.Repeat(" + 1", 1400)
	if o := run(t, "def f():\n  try:\n    return f()"+deep+"\n  except e:\n    raise e\nf()\n", api.MaxFuel); tell(o) != "raised|\"RecursionError\"|" {
		t.Error(o)
	}
	if o := run(t, "def f():\n  try:\n    f()"+deep+"\n  except e:\n    while 1:\n      pass\nf()\n", api.MaxFuel); tell(o) != "tired||" {
		t.Error(o)
	}
	chain := "if 0:\n  pass\n" + strings.Repeat("elif 0:\n  pass\n", 300) + "else:\n  print(1)\n"
	if o := run(t, chain, enough); tell(o) != "done||1\n" || o.Steps != 302 {
		t.Error(o)
	}
	if o := run(t, "while 1:\n  range(2000) + [] == range(2000)\n", 400); tell(o) != "tired||" || o.Steps != 400 {
		t.Error(o)
	}
	for _, fuel := range []int{0, 1, 99, api.MaxFuel} {
		if o := run(t, "i = 0\nwhile 1:\n  i = i + 1\n  try:\n    raise [i]\n  except e:\n    str(e)\n", fuel); o.Kind != "tired" || o.Steps != fuel {
			t.Error(o.Kind, o.Steps, strconv.Itoa(fuel))
		}
	}
}
