package session_test

import (
	"errors"
	"strings"
	"sync"
	"testing"

	"nurserypy/api"
	"nurserypy/code"
	"nurserypy/heap"
	"nurserypy/session"
	"nurserypy/vm"
)

// roomy: a setting with which nothing of these tests is full, unless it is to be.
func roomy() vm.Setting {
	return vm.Setting{Config: heap.Config{Half: 256, Old: api.MaxWords, Card: 16, Tenure: 1}}
}

func begun(t *testing.T, fuel int) *session.Session {
	t.Helper()
	s, err := session.New(roomy(), fuel)
	if s == nil || err != nil {
		t.Fatal(s, err)
	}
	return s
}

// does: a piece that is done, with this answer.
func does(t *testing.T, s *session.Session, text, want string) {
	t.Helper()
	if got, err := s.Do(text); got != want || err != nil {
		t.Errorf("%.80q: %q and %v, not %q", text, got, err, want)
	}
}

// refuses: a piece that has this bare error.
func refuses(t *testing.T, s *session.Session, text string, want error) {
	t.Helper()
	if got, err := s.Do(text); got != "" || err != want {
		t.Errorf("%.80q: %q and %v, not %v", text, got, err, want)
	}
}

// gives a line that is taken.
func gives(t *testing.T, s *session.Session, line string) {
	t.Helper()
	if err := s.Give(line); err != nil {
		t.Errorf("%.80q: %v", line, err)
	}
}

// P150: New has vm.Run's errors of the setting and the fuel, and no others.
func TestNew(t *testing.T) {
	nothing := code.Code{Funcs: []code.Func{{Ops: []code.Op{{Name: "halt"}}}}}
	settings := []vm.Setting{{}}
	change := func(f func(*vm.Setting)) {
		s := roomy()
		f(&s)
		settings = append(settings, s)
	}
	for _, n := range []int{-1 << 63, -1, 0, 1, 15, 16, 1024, 1025, api.MaxWords, api.MaxWords + 1, 1<<63 - 1} {
		change(func(s *vm.Setting) { s.Half = n })
		change(func(s *vm.Setting) { s.Old = n })
		change(func(s *vm.Setting) { s.Card = n })
		change(func(s *vm.Setting) { s.Tenure = n })
	}
	for _, n := range []int{0, 1, 100, 101} {
		change(func(s *vm.Setting) { s.Force = make([]vm.Force, n) })
	}
	refused := 0
	for _, setting := range settings {
		for _, fuel := range []int{-1 << 63, -1, 0, 1, api.MaxFuel, api.MaxFuel + 1, 1<<63 - 1} {
			_, want := vm.Run(nothing, nil, fuel, setting)
			s, err := session.New(setting, fuel)
			if err != want || (s == nil) != (want != nil) {
				t.Errorf("%v, %d: %v and %v, not %v", setting.Config, fuel, s, err, want)
			}
			if want != nil {
				refused++
			}
		}
	}
	if refused == 0 || refused == 7*len(settings) {
		t.Error(refused)
	}
}

// P150, P151: a session that has done nothing.
func TestNothingDone(t *testing.T) {
	s := begun(t, 0)
	if s.Program() != "" || s.Last() != (api.Outcome{}) || s.Undo() != api.ErrNone {
		t.Error(s.Program(), s.Last(), s.Undo())
	}
	does(t, s, "", "")
	does(t, s, "\n  # nothing\n", "")
	if s.Program() != "" || s.Last() != (api.Outcome{Kind: "done"}) {
		t.Error(s.Program(), s.Last())
	}
	refuses(t, s, "pass", api.ErrBound)
	if s.Last() != (api.Outcome{Kind: "tired"}) {
		t.Error(s.Last())
	}
	// Pieces with nothing in them are pieces.
	if first, second, third := s.Undo(), s.Undo(), s.Undo(); first != nil || second != nil || third != api.ErrNone {
		t.Error(first, second, third)
	}
}

// P150, P153: pieces stand behind those that were done; each answers what it prints itself.
func TestPieces(t *testing.T) {
	s := begun(t, 1000)
	does(t, s, "l = [1]\ndef f(a):\n return [a, l, later]\nprint(l)", "[1]\n")
	does(t, s, "push(l, 2)", "")
	refuses(t, s, "print(f(0))", api.ErrShape)
	does(t, s, "later = id(l)\nprint(later)\nprint(f(0))", "1\n[0, [1, 2], 1]\n")
	does(t, s, "def f(b):\n  print(\"again\", b)\n\nf(len(l))", "again 2\n")
	does(t, s, "print()", "\n")
	does(t, s, "pass", "")
	does(t, s, "f(id([]))", "again 2\n")
	want := "l = [1]\ndef f(a):\n    return [a, l, later]\nprint(l)\npush(l, 2)\nlater = id(l)\nprint(later)\nprint(f(0))\ndef f(b):\n    print(\"again\", b)\nf(len(l))\nprint()\npass\nf(id([]))\n"
	if got := s.Program(); got != want {
		t.Errorf("%q", got)
	}
}

// P150: each piece is run with all ahead of it, from the beginning: steps of all count.
func TestFuelOfAll(t *testing.T) {
	s := begun(t, 3)
	does(t, s, "print(1)\npass", "1\n")
	refuses(t, s, "print(2)\npass", api.ErrBound)
	if o := s.Last(); o != (api.Outcome{Kind: "tired", Output: "1\n2\n", Steps: 3}) {
		t.Error(o)
	}
	does(t, s, "print(3)", "3\n")
	refuses(t, s, "pass", api.ErrBound)
	does(t, s, "", "")
	if o := s.Last(); o != (api.Outcome{Kind: "done", Output: "1\n3\n", Steps: 3}) {
		t.Error(o)
	}
}

// P150: a piece that cannot be read, or whose names are not right, has the error of the piece by itself, and is not run.
func TestUnreadPieces(t *testing.T) {
	s := begun(t, 100)
	does(t, s, "a = 1\nwhile a < 3:\n a = a + 1\nprint(a)", "3\n")
	program, last := s.Program(), s.Last()
	for _, c := range []struct {
		text string
		at   int
		err  error
	}{
		{"print(\"", 6, api.ErrText},
		{"x = 1\ndef f(:\n", 12, api.ErrText},
		{"else:\n pass\n", 0, api.ErrText},
		{"  print(a)", 2, api.ErrText},
		{strings.Repeat("-", 13) + "a", 12, api.ErrBound},
		{"break", 0, api.ErrName},
		{"pass\ncontinue", 1, api.ErrName},
		{"def f():\n  pass\nreturn", 2, api.ErrName},
		{"global a", 0, api.ErrName},
		{"def f():\n  nonlocal a", 1, api.ErrName},
		{"raise 1\nlambda a, a: 0", 1, api.ErrName},
	} {
		got, err := s.Do(c.text)
		var f *api.Fault
		if got != "" || !errors.As(err, &f) || f.Err != c.err || f.At != c.at {
			t.Errorf("%q: %q, %v, %v", c.text, got, err, f)
		}
	}
	refuses(t, s, strings.Repeat("#", api.MaxSource+1), api.ErrBound)
	refuses(t, s, "a="+strings.Repeat("1+", 2000)+"1", api.ErrShape) // there is no such program, as P24 lays it out
	if s.Program() != program || s.Last() != last {
		t.Error(s.Program(), s.Last())
	}
}

// P150, P151: what raises, is tired or full is not done; but Last tells of it.
func TestNotDone(t *testing.T) {
	setting := roomy()
	setting.Half, setting.Old = 100, 2000
	s, err := session.New(setting, 100)
	if err != nil {
		t.Fatal(err)
	}
	does(t, s, "x = 1\nprint(x)", "1\n")
	program := s.Program()
	for _, c := range []struct {
		text string
		err  error
		last api.Outcome
	}{
		{"x = 2\nprint(x)\nraise [x]", api.ErrShape, api.Outcome{Kind: "raised", Value: "[2]", Output: "1\n2\n", Steps: 5}},
		{"nobody", api.ErrShape, api.Outcome{Kind: "raised", Value: "\"NameError\"", Output: "1\n", Steps: 3}},
		{"print(input())", api.ErrShape, api.Outcome{Kind: "raised", Value: "\"ValueError\"", Output: "1\n", Steps: 3}},
		{"print(0)\nwhile True:\n pass", api.ErrBound, api.Outcome{Kind: "tired", Output: "1\n0\n", Steps: 100}},
		{"print(9)\nx = range(2000)", api.ErrFull, api.Outcome{Kind: "full", Output: "1\n9\n", Steps: 4}},
	} {
		refuses(t, s, c.text, c.err)
		if o := s.Last(); o != c.last {
			t.Errorf("%q: %v", c.text, o)
		}
		if s.Program() != program {
			t.Errorf("%q: %q", c.text, s.Program())
		}
		last := s.Last()
		if _, err := s.Do("("); !errors.Is(err, api.ErrText) || s.Last() != last {
			t.Errorf("%q: %v, %v", c.text, err, s.Last())
		}
	}
	does(t, s, "print(x)", "1\n")
	if o := s.Last(); o != (api.Outcome{Kind: "done", Output: "1\n1\n", Steps: 3}) {
		t.Error(o)
	}
}

// P150: all pieces together may have MaxSource bytes, as they are laid out, and no more.
func TestSourceOfAll(t *testing.T) {
	pass := func(n int) string { return strings.Repeat("pass\n", n) }
	s := begun(t, api.MaxFuel)
	does(t, s, pass(1000), "")
	last := s.Last()
	refuses(t, s, pass(201), api.ErrBound)
	refuses(t, s, pass(199)+"x=1+1\n", api.ErrBound) // 5 bytes as it stands here, 10 as it is laid out
	refuses(t, s, pass(200)+"1", api.ErrBound)
	if s.Last() != last {
		t.Error(s.Last())
	}
	does(t, s, pass(198)+"\n\n# not one of them is kept\nx=1+1   # likewise\n", "")
	if n := len(s.Program()); n != api.MaxSource {
		t.Error(n)
	}
	refuses(t, s, "x", api.ErrBound)
	does(t, s, "# nothing more", "")
	if err := s.Undo(); err != nil {
		t.Error(err)
	}
	if err := s.Undo(); err != nil {
		t.Error(err)
	}
	does(t, s, pass(200), "")
}

// P150: 60 pieces may be done; of what is wrong otherwise, that is told which is named first.
func TestSixtyPieces(t *testing.T) {
	s := begun(t, 100)
	for range 3 {
		refuses(t, s, "raise 0", api.ErrShape)
	}
	for range 60 {
		does(t, s, "print(0)", "0\n")
	}
	last := s.Last()
	for _, text := range []string{"print(0)", "", "raise 0", "while 1:\n pass"} {
		refuses(t, s, text, api.ErrBound)
	}
	if _, err := s.Do("x ="); !errors.Is(err, api.ErrText) {
		t.Error(err)
	}
	if _, err := s.Do("return"); !errors.Is(err, api.ErrName) {
		t.Error(err)
	}
	if s.Last() != last || last.Output != strings.Repeat("0\n", 60) || s.Program() != strings.Repeat("print(0)\n", 60) {
		t.Error(s.Last(), s.Program())
	}
	if err := s.Undo(); err != nil {
		t.Error(err)
	}
	does(t, s, "print(1)", "1\n")
	refuses(t, s, "print(1)", api.ErrBound)
}

// P150: pieces of which no code can be made are not run; neither are others whose input no run takes.
func TestNotRun(t *testing.T) {
	lambdas := func(n int) string { return strings.Repeat("lambda: 0\n", n) }
	s := begun(t, 1000)
	does(t, s, lambdas(300), "")
	last := s.Last()
	refuses(t, s, lambdas(100), api.ErrBound)
	if s.Last() != last {
		t.Error(s.Last())
	}
	does(t, s, lambdas(99), "")
	refuses(t, s, "["+strings.Repeat("0, ", 500)+"0]\n["+strings.Repeat("0, ", 1000)+"0]", api.ErrBound)
	gives(t, s, strings.Repeat("a", api.MaxLength))
	does(t, s, "print(len(input()))", "2000\n")
	last = s.Last()
	gives(t, s, strings.Repeat("a", api.MaxLength+1))
	refuses(t, s, "", api.ErrBound)
	if s.Last() != last || s.Program() != lambdas(399)+"print(len(input()))\n" {
		t.Error(s.Last(), s.Program())
	}
}

// P150: lines come in the order in which they were given; each run begins with the first one.
func TestInput(t *testing.T) {
	s := begun(t, 1000)
	gives(t, s, "one")
	gives(t, s, "two\nlines\x00")
	does(t, s, "a = input()\nprint(a)", "one\n")
	does(t, s, "print([input()])", "[\"two\\nlines\\x00\"]\n")
	refuses(t, s, "print(input())", api.ErrShape)
	gives(t, s, "")
	does(t, s, "print([input()], a)", "[\"\"] one\n")
	for range api.MaxInput - 3 {
		gives(t, s, "more")
	}
	for range 2 {
		if err := s.Give("one too many"); err != api.ErrBound {
			t.Error(err)
		}
	}
	does(t, s, "n = 3\ntry:\n  while True:\n    input()\n    n = n + 1\nexcept e:\n  print(n, e)", "50 ValueError\n")
}

// P150: what was printed before may be printed no more; then all is told that was printed.
func TestPrintedAnew(t *testing.T) {
	s := begun(t, 100)
	ask := "try:\n  print(input())\nexcept e:\n  print(e)\n"
	does(t, s, "print(1)", "1\n")
	does(t, s, ask, "ValueError\n")
	does(t, s, "print(2)", "2\n")
	gives(t, s, "a")
	does(t, s, "print(3)", "1\na\n2\n3\n")
	does(t, s, "print(4)", "4\n")
	// Of the last three pieces none was done: what was printed before is what was printed with the last one that was.
	for range 3 {
		if err := s.Undo(); err != nil {
			t.Error(err)
		}
	}
	does(t, s, "print(5)", "1\na\n5\n")
	// It begins alike, though it is another text that does.
	s = begun(t, 100)
	does(t, s, "print(len(\"a\"))\ntry:\n  print(input())\nexcept e:\n  pass\n", "1\n")
	gives(t, s, "b")
	does(t, s, "print(6)", "b\n6\n")
}

// P151: a piece that was not done after all; and none of what it did is left.
func TestUndo(t *testing.T) {
	s := begun(t, 100)
	does(t, s, "x = 1\nprint(x)", "1\n")
	does(t, s, "x = x + 1\nprint(x)", "2\n")
	does(t, s, "y = 5\nprint(x + y)", "7\n")
	last := s.Last()
	if err := s.Undo(); err != nil {
		t.Error(err)
	}
	if s.Program() != "x = 1\nprint(x)\nx = x + 1\nprint(x)\n" || s.Last() != last {
		t.Error(s.Program(), s.Last())
	}
	refuses(t, s, "y", api.ErrShape)
	refuses(t, s, "print(y)", api.ErrShape)
	does(t, s, "print(x)", "2\n")
	if first, second := s.Undo(), s.Undo(); first != nil || second != nil {
		t.Error(first, second)
	}
	does(t, s, "print(x)", "1\n")
	last = s.Last()
	if first, second, third := s.Undo(), s.Undo(), s.Undo(); first != nil || second != nil || third != api.ErrNone {
		t.Error(first, second, third)
	}
	if s.Program() != "" || s.Last() != last {
		t.Error(s.Program(), s.Last())
	}
	refuses(t, s, "x", api.ErrShape)
	if err := s.Undo(); err != api.ErrNone {
		t.Error(err)
	}
	does(t, s, "print(8)", "8\n")
}

// P151: lines of input stay, whatever is undone.
func TestUndoneInput(t *testing.T) {
	s := begun(t, 100)
	gives(t, s, "a")
	for range 3 {
		does(t, s, "print(input())", "a\n")
		if err := s.Undo(); err != nil {
			t.Error(err)
		}
	}
}

// P2: a session hangs on its own calls alone.
func TestTwoSessions(t *testing.T) {
	a, b := begun(t, 100), begun(t, 5)
	gives(t, a, "a")
	does(t, a, "x = input()", "")
	refuses(t, b, "print(input())", api.ErrShape)
	refuses(t, b, "print(x)", api.ErrShape)
	does(t, b, "x = 1", "")
	does(t, a, "print(x)", "a\n")
	if a.Program() != "x = input()\nprint(x)\n" || b.Program() != "x = 1\n" || a.Last().Output != "a\n" || b.Last().Output != "" {
		t.Error(a.Program(), b.Program(), a.Last(), b.Last())
	}
}

// P4: what becomes of a setting later does not show; nor is it written.
func TestSettingStays(t *testing.T) {
	setting := roomy()
	all := make([]vm.Force, 0, 20)
	setting.Force = append(all, vm.Force{Step: 1}, vm.Force{Step: 2, Major: true})
	s, err := session.New(setting, 100)
	if err != nil {
		t.Fatal(err)
	}
	setting.Half, setting.Old = 0, -1
	does(t, s, "print([range(3)])", "[[0, 1, 2]]\n")
	if f := setting.Force; f[0] != (vm.Force{Step: 1}) || f[1] != (vm.Force{Step: 2, Major: true}) || all[:3][2] != (vm.Force{}) {
		t.Error(f)
	}
}

// P1, P2: two that only ask may do so at the same time, also where nothing was asked before.
func TestAskedAtOnce(t *testing.T) {
	for range 20 {
		s := begun(t, 10)
		var asking sync.WaitGroup
		for range 8 {
			asking.Go(func() {
				if s.Program() != "" || s.Last() != (api.Outcome{}) {
					t.Error(s.Program(), s.Last())
				}
			})
		}
		asking.Wait()
		does(t, s, "print(1)", "1\n")
	}
}
