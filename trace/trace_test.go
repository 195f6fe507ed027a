package trace_test

import (
	"errors"
	"fmt"
	"reflect"
	"slices"
	"strings"
	"testing"

	"nurserypy/api"
	"nurserypy/checks/made"
	"nurserypy/plain"
	"nurserypy/trace"
	"nurserypy/tree"
	"nurserypy/walk"
)

const enough = 5000 // steps, more than a small program needs

func read(t *testing.T, s string) []tree.Stmt {
	t.Helper()
	l, err := tree.Read(s)
	if err != nil {
		t.Fatalf("%q: %v", s, err)
	}
	return l
}

func input() []string { return []string{"one", "", "a b", "\xff\"\n"} }

// traced: a trace, of which is asked what holds of all of them: P130, P132.
func traced(t *testing.T, l []tree.Stmt, input []string, fuel int) ([]trace.Event, api.Outcome) {
	t.Helper()
	events, o, err := trace.Trace(l, input, fuel)
	want, bad := walk.Run(l, input, fuel)
	if err != nil || bad != nil || o != want {
		t.Fatalf("%v, %v, want %v, %v", o, err, want, bad)
	}
	step := 0
	for _, e := range events {
		if e.Step <= step || e.Step > o.Steps || e.Deep < 0 || e.Deep > api.MaxCalls {
			t.Fatalf("%v behind step %d, of %v", e, step, o)
		}
		step = e.Step
	}
	counts, err := trace.Counts(l, input, fuel)
	if err != nil || !slices.Equal(counts, counted(events, size(l))) {
		t.Fatalf("%v, %v, want those of %v", counts, err, events)
	}
	return events, o
}

// size: how many statements a program has.
func size(l []tree.Stmt) int {
	n := len(l)
	for _, s := range l {
		n += size(s.Body) + size(s.Else)
	}
	return n
}

// counted: how often each of so many statements is in a trace.
func counted(events []trace.Event, among int) []int {
	out := make([]int, among)
	for _, e := range events {
		out[e.Stmt]++
	}
	return out
}

// P130: traces of all kinds of statements: step, statement, calls that are open.
func TestTrace(t *testing.T) {
	for s, want := range map[string]string{
		"":                 "[]",
		"pass\npass\npass": "[{1 0 0} {2 1 0} {3 2 0}]",
		"x = [1, 2]\nx[0] = 3\ndel x[1]\nprint(x)":                                 "[{1 0 0} {2 1 0} {3 2 0} {4 3 0}]",
		"if 1:\n pass\npass":                                                       "[{1 0 0} {2 1 0} {3 2 0}]",
		"if 0:\n pass\npass":                                                       "[{1 0 0} {2 2 0}]",
		"if 0:\n pass\n pass\nelse:\n pass\npass":                                  "[{1 0 0} {2 3 0} {3 4 0}]",
		"if 0:\n pass\nelif 1:\n pass\nelse:\n 1":                                  "[{1 0 0} {2 2 0} {3 3 0}]",
		"if 0:\n pass\nelif 0:\n pass\nelse:\n 1":                                  "[{1 0 0} {2 2 0} {3 4 0}]",
		"while 0:\n pass\npass":                                                    "[{1 0 0} {3 2 0}]",
		"i = 2\nwhile i:\n i = i - 1\npass":                                        "[{1 0 0} {2 1 0} {4 2 0} {6 2 0} {8 3 0}]",
		"while 1:\n if 1:\n  break\n pass\npass":                                   "[{1 0 0} {3 1 0} {4 2 0} {5 4 0}]",
		"for x in []:\n pass\npass":                                                "[{1 0 0} {2 2 0}]",
		"for x in \"ab\":\n continue\n pass\npass":                                 "[{1 0 0} {3 1 0} {5 1 0} {6 3 0}]",
		"for x in [1]:\n for y in {2: 3}:\n  pass":                                 "[{1 0 0} {3 1 0} {5 2 0}]",
		"try:\n pass\n pass\nexcept e:\n pass\n1":                                  "[{1 0 0} {2 1 0} {3 2 0} {4 4 0}]",
		"try:\n raise 1\n pass\nexcept e:\n 1\n1":                                  "[{1 0 0} {2 1 0} {3 3 0} {4 4 0}]",
		"1 // 0\npass":                                                             "[{1 0 0}]",
		"raise 1\npass":                                                            "[{1 0 0}]",
		"def f():\n pass\n pass\npass":                                             "[{1 0 0} {2 3 0}]",
		"def f():\n return\n pass\nf()\npass":                                      "[{1 0 0} {2 3 0} {4 1 1} {5 4 0}]",
		"def f():\n global x\n x = 1\nf()\nx":                                      "[{1 0 0} {2 3 0} {4 1 1} {5 2 1} {6 4 0}]",
		"def f():\n pass\nf() + f()":                                               "[{1 0 0} {2 2 0} {4 1 1} {6 1 1}]",
		"def f():\n pass\nf(1)":                                                    "[{1 0 0} {2 2 0}]",
		"(lambda: 1)()\nlen(\"\")":                                                 "[{1 0 0} {3 1 0}]",
		"def f():\n pass\n(lambda: f())()\npass":                                   "[{1 0 0} {2 2 0} {5 1 2} {6 3 0}]",
		"def f(n):\n if n:\n  f(n - 1)\n pass\nf(1)":                               "[{1 0 0} {2 4 0} {4 1 1} {5 2 1} {7 1 2} {8 3 2} {9 3 1}]",
		"def f():\n x = 1\n def g():\n  nonlocal x\n  x = 2\n g()\n return x\nf()": "[{1 0 0} {2 7 0} {4 1 1} {5 2 1} {6 5 1} {8 3 2} {9 4 2} {10 6 1}]",
	} {
		events, o := traced(t, read(t, s), nil, enough)
		if got := fmt.Sprint(events); got != want {
			t.Errorf("%q: %s, want %s", s, got, want)
		}
		if o.Kind == "tired" {
			t.Errorf("%q: %v", s, o)
		}
	}
}

// P130: calls that what was raised has ended are open no more.
func TestDeep(t *testing.T) {
	s := "def f(n):\n try:\n  if n:\n   return f(n - 1)\n  1 // 0\n except e:\n  if n < 2:\n   raise n + 1\n pass\ntry:\n f(3)\nexcept e:\n pass\npass\n"
	events, o := traced(t, read(t, s), nil, enough)
	var got []string
	for _, e := range events[len(events)-9:] {
		got = append(got, fmt.Sprint(e.Stmt, "@", e.Deep))
	}
	want := "[2@4 4@4 5@4 6@4 5@3 6@3 5@2 7@2 11@0]"
	if o.Kind != "done" || strings.ReplaceAll(fmt.Sprint(got), " @ ", "@") != want {
		t.Errorf("%v, want %s; %v", got, want, o)
	}
	events, o = traced(t, read(t, "def f():\n f()\ntry:\n f()\nexcept e:\n print(e)"), nil, enough)
	if last := events[len(events)-2:]; last[0].Deep != api.MaxCalls || last[1].Deep != 0 || last[1].Stmt != 4 || o.Output != "RecursionError\n" {
		t.Errorf("%v, %v", last, o)
	}
}

// P130: a step for which there is no fuel begins nothing: with less fuel a trace is the beginning of what it was.
func TestLessFuel(t *testing.T) {
	for _, s := range made.Written() {
		l := read(t, s)
		all, o := traced(t, l, input(), enough)
		for fuel := range o.Steps + 2 {
			events, _ := traced(t, l, input(), fuel)
			n := 0
			for n < len(all) && all[n].Step <= fuel {
				n++
			}
			if !slices.Equal(events, all[:n]) {
				t.Fatalf("fuel %d:\n%s%v, want %v", fuel, s, events, all[:n])
			}
		}
	}
	if events, o := traced(t, read(t, "while 1:\n pass"), nil, api.MaxFuel); len(events) != api.MaxFuel/2 || o.Kind != "tired" {
		t.Error(len(events), o)
	}
}

// P131: how often statements were begun.
func TestCounts(t *testing.T) {
	for s, want := range map[string]string{
		"": "[]",
		"for x in range(7):\n if x % 3:\n  continue\n pass\n":                                       "[1 7 4 3]",
		"def f(n):\n if n < 2:\n  return n\n return f(n - 1) + f(n - 2)\nf(8)\nraise 1\npass\n":     "[1 67 34 33 1 1 0]",
		"while 1:\n try:\n  print(input())\n except e:\n  break\nelse_ = 1\n":                       "[1 5 5 1 1]",
		"if 0:\n if 1:\n  pass\n else:\n  pass\nelse:\n def f():\n  pass\n def g():\n  f()\n g()\n": "[1 0 0 0 1 1 1 1 1]",
	} {
		l := read(t, s)
		got, err := trace.Counts(l, input(), enough)
		if fmt.Sprint(got) != want || err != nil {
			t.Errorf("%q: %v, %v, want %s", s, got, err, want)
		}
		none, err := trace.Counts(l, nil, 0)
		if err != nil || !slices.Equal(none, make([]int, size(l))) {
			t.Errorf("%q, without fuel: %v, %v", s, none, err)
		}
	}
}

// refused fails unless Trace and Counts answer walk.Run's error, and nothing else.
func refused(t *testing.T, want error, l []tree.Stmt, input []string, fuel int) {
	t.Helper()
	_, wanted := walk.Run(l, input, fuel)
	code, at := plain.Code(wanted)
	events, o, err := trace.Trace(l, input, fuel)
	if c, a := plain.Code(err); !errors.Is(err, want) || c != code || a != at || len(events) > 0 || o != (api.Outcome{}) {
		t.Errorf("%v, %v, %v, want %v", events, o, err, wanted)
	}
	counts, err := trace.Counts(l, input, fuel)
	if c, a := plain.Code(err); !errors.Is(err, want) || c != code || a != at || len(counts) > 0 {
		t.Errorf("%v, %v, want %v", counts, err, wanted)
	}
}

// wrongTrees: what no program has.
func wrongTrees() [][]tree.Stmt {
	return [][]tree.Stmt{
		{{}}, {{Kind: "expr"}}, {{Kind: "set", Name: "X"}}, {{Kind: "while"}}, make([]tree.Stmt, 3), make([]tree.Stmt, api.MaxSource+1),
		{{Kind: "pass", Body: []tree.Stmt{{Kind: "pass"}}}}, {{Kind: "expr", L: []tree.Expr{{Op: "lambda"}}}}, deepTree(100000), wideTree(200),
	}
}

// deepTree: so many statements in each other.
func deepTree(n int) []tree.Stmt {
	l := []tree.Stmt{{Kind: "pass"}}
	for range n {
		l = []tree.Stmt{{Kind: "if", L: []tree.Expr{{Op: "None"}}, Body: l}}
	}
	return l
}

// wideTree: statements in each other, whose two blocks are the same list: nobody could count them one by one.
func wideTree(n int) []tree.Stmt {
	l := []tree.Stmt{{Kind: "pass"}}
	for range n {
		l = []tree.Stmt{{Kind: "if", L: []tree.Expr{{Op: "None"}}, Body: l, Else: l}}
	}
	return l
}

// P130, P131, P1, P3: walk.Run's errors, in their order, with their places.
func TestErrors(t *testing.T) {
	good := read(t, "print(input())")
	many := make([]string, api.MaxInput+1)
	long := strings.Repeat("x", api.MaxLength)
	refused(t, api.ErrBound, good, many, 1)
	refused(t, api.ErrBound, good, []string{"a", long + "x"}, 1)
	refused(t, api.ErrBound, good, nil, -1)
	refused(t, api.ErrBound, good, nil, api.MaxFuel+1)
	refused(t, api.ErrBound, nil, many, 0)
	refused(t, api.ErrName, read(t, "pass\nif 1:\n pass\n return"), many, -1)
	refused(t, api.ErrName, read(t, "while 1:\n def f():\n  break"), nil, 1)
	for _, l := range wrongTrees() {
		refused(t, api.ErrShape, l, many, -1)
		refused(t, api.ErrShape, l, nil, 1)
	}
	for _, fuel := range []int{1, api.MaxFuel} {
		if events, o := traced(t, good, append(make([]string, api.MaxInput-1), long), fuel); len(events) != 1 || o.Kind != "done" {
			t.Error(events, o)
		}
	}
	if events, o := traced(t, nil, nil, 0); len(events) != 0 || o != (api.Outcome{Kind: "done"}) {
		t.Error(events, o)
	}
	if events, o := traced(t, good, nil, 0); len(events) != 0 || o != (api.Outcome{Kind: "tired"}) {
		t.Error(events, o)
	}
}

// P4: what is handed over is only read, what is answered is nobody else's.
func TestOnlyReads(t *testing.T) {
	s := "def f(a, b):\n l = [a, b]\n l[0] = input()\n return lambda: l\nfor x in f(1, 2)():\n print(x)\n"
	l, again := read(t, s), read(t, s)
	room := []string{"one", "two", "three"}
	first, _ := traced(t, l, room[:1], enough)
	counts, _ := trace.Counts(l, room[:1], enough)
	keptEvents, keptCounts := slices.Clone(first), slices.Clone(counts)
	clear(first)
	clear(counts)
	second, _ := traced(t, l, room[:1], enough)
	if others, _ := trace.Counts(l, room[:1], enough); !slices.Equal(second, keptEvents) || !slices.Equal(others, keptCounts) {
		t.Error(second, others)
	}
	if !reflect.DeepEqual(l, again) || !slices.Equal(room, []string{"one", "two", "three"}) {
		t.Error("something was changed")
	}
}
