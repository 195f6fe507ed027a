package trace_test

import (
	"slices"
	"strconv"
	"strings"
	"testing"

	"nurserypy/api"
	"nurserypy/checks/made"
	"nurserypy/scope"
	"nurserypy/trace"
	"nurserypy/tree"
	"nurserypy/walk"
)

// ahead of a program that is marked: qq tells a statement's number, and how many calls are open: as many as more can't be opened.
const ahead = "def qr(n):\n try:\n  return qr(n + 1)\n except e:\n  return n\ndef qq(n, say):\n say(\"#\", n, qr(0))\nqp = print\n"

const mostMarked = api.MaxCalls - 2 // qq and qr are open, too

// marked: statements with a call of qq ahead of each. It answers the number of the next one, too.
func marked(l []tree.Stmt, n int) ([]tree.Stmt, int) {
	var out []tree.Stmt
	for _, s := range l {
		mark := tree.Stmt{Kind: "expr", L: []tree.Expr{{Op: "call", L: []tree.Expr{{Op: "name", S: "qq"}, {Op: "int", N: int64(n)}, {Op: "name", S: "qp"}}}}}
		n++
		s.Body, n = marked(s.Body, n)
		s.Else, n = marked(s.Else, n)
		out = append(out, mark, s)
	}
	return out, n
}

// markedRun: what a run of a marked program tells of statements and calls; and what it did, without that.
func markedRun(t *testing.T, l []tree.Stmt) ([]trace.Event, api.Outcome) {
	t.Helper()
	body, _ := marked(l, 0)
	o, err := walk.Run(append(read(t, ahead), body...), input(), api.MaxFuel)
	if err != nil {
		return nil, api.Outcome{}
	}
	var events []trace.Event
	var others []string
	for _, line := range strings.SplitAfter(o.Output, "\n") {
		words := strings.Fields(line)
		if len(words) != 3 || words[0] != "#" {
			others = append(others, line)
			continue
		}
		n, _ := strconv.Atoi(words[1])
		room, _ := strconv.Atoi(words[2])
		events = append(events, trace.Event{Stmt: n, Deep: mostMarked - room})
	}
	o.Output = strings.Join(others, "")
	o.Steps = 0
	return events, o
}

// fitsMarks: a program whose marks do not change what it does.
func fitsMarks(events []trace.Event, o api.Outcome) bool {
	for _, e := range events {
		if e.Deep > mostMarked {
			return false
		}
	}
	return o.Kind != "tired" && len(events) < 400 && len(o.Output) < 10000
}

// deepPrograms: calls in each other, that end, and that are given up.
func deepPrograms() []string {
	return []string{
		"def f(n):\n if n:\n  return 1 + f(n - 1)\n return 0\nprint(f(57))\nprint(f(3))\n",
		"def f(n):\n try:\n  if n:\n   f(n - 1)\n  1 // 0\n except e:\n  if n % 3:\n   raise [n, e]\n print(n, e)\n pass\nf(20)\n",
		"def f(n):\n for x in range(n):\n  try:\n   g(x)()\n  except e:\n   f(x)\n   continue\n  pass\ndef g(n):\n def h():\n  if n % 2:\n   raise n\n  return (lambda: f(n))()\n return h\nf(4)\ng(1)()\npass\n",
	}
}

// P130, P132: programs that tell by themselves what they begin.
func TestMarked(t *testing.T) {
	var programs [][]tree.Stmt
	for _, s := range append(made.Written(), deepPrograms()...) {
		programs = append(programs, read(t, s))
	}
	for seed := range 150 {
		programs = append(programs, made.Program(seed))
	}
	fitted, deepest, raised := 0, 0, 0
	for _, l := range programs {
		events, o := traced(t, l, input(), 1000)
		want, did := markedRun(t, l)
		if did.Kind == "" || !fitsMarks(events, o) {
			continue
		}
		fitted++
		o.Steps = 0
		for n, e := range events {
			events[n].Step = 0
			deepest = max(deepest, e.Deep)
		}
		if !slices.Equal(events, want) || o != did {
			s, _ := tree.Text(l)
			t.Fatalf("%s%v, %v\nwant %v, %v", s, events, o, want, did)
		}
		if o.Kind == "raised" {
			raised++
		}
	}
	if fitted < 100 || deepest != mostMarked || raised < 10 {
		t.Errorf("just %d fitted, %d deep; %d raised", fitted, deepest, raised)
	}
}

// replaced: a program in which the statement of a number is another one.
func replaced(l []tree.Stmt, number int, by tree.Stmt) []tree.Stmt {
	at := 0
	var within func([]tree.Stmt) []tree.Stmt
	within = func(l []tree.Stmt) []tree.Stmt {
		var out []tree.Stmt
		for _, s := range l {
			here := at == number
			at++
			s.Body = within(s.Body)
			s.Else = within(s.Else)
			if here {
				s = by
			}
			out = append(out, s)
		}
		return out
	}
	return within(l)
}

// P130: the number of a statement is that which scope.Check tells, if it is not right.
func TestNumbers(t *testing.T) {
	s := "def f(n):\n while n:\n  if n == 1:\n   break\n  elif n == 2:\n   pass\n  else:\n   x = n\n  n = n - 1\n return n\ntry:\n for x in [4, 1]:\n  try:\n   f(x)\n   raise x\n  except e:\n   pass\n if x:\n  [][0] = x\nexcept e:\n del {1: 2}[1]\nf(9)\n"
	l := read(t, s)
	counts, err := trace.Counts(l, nil, enough)
	if err != nil || slices.Contains(counts, 0) || len(counts) != size(l) {
		t.Fatal(counts, err)
	}
	for n := range counts {
		wrong := tree.Stmt{Kind: "global", P: []string{"twice", "twice"}}
		err, ok := scope.Check(replaced(l, n, wrong)).(*api.Fault)
		if !ok || err.At != n {
			t.Errorf("statement %d: %v", n, err)
		}
		stop := tree.Stmt{Kind: "expr", L: []tree.Expr{{Op: "call", L: []tree.Expr{{Op: "name", S: "print"}, {Op: "str", S: "here"}}}}}
		program := replaced(l, n, stop)
		events, o := traced(t, program, nil, enough)
		first := slices.IndexFunc(events, func(e trace.Event) bool { return e.Stmt == n })
		if first < 0 || !strings.HasPrefix(o.Output, "here\n") {
			t.Fatalf("statement %d: %v, %v", n, events, o)
		}
		if _, o := traced(t, program, nil, events[first].Step-1); o.Output != "" {
			t.Errorf("statement %d is done ahead of step %d", n, events[first].Step)
		}
		if _, o := traced(t, program, nil, events[first].Step); o.Output != "here\n" {
			t.Errorf("statement %d is not done at step %d: %v", n, events[first].Step, o)
		}
	}
}
