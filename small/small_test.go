package small_test

import (
	"errors"
	"math/rand"
	"reflect"
	"slices"
	"strings"
	"sync"
	"testing"

	"nurserypy/api"
	"nurserypy/checks/made"
	"nurserypy/heap"
	"nurserypy/plain"
	"nurserypy/scope"
	"nurserypy/small"
	"nurserypy/tree"
	"nurserypy/vm"
	"nurserypy/walk"
)

type maker func([]tree.Stmt) ([]tree.Stmt, error)

func read(t *testing.T, s string) []tree.Stmt {
	t.Helper()
	l, err := tree.Read(s)
	if err != nil {
		t.Fatalf("%q: %v", s, err)
	}
	return l
}

// text of a program, which must be one: as no two programs have the same, programs are told apart by it.
func text(t *testing.T, l []tree.Stmt) string {
	t.Helper()
	s, err := tree.Text(l)
	if err != nil {
		t.Fatalf("no program, but %d statements", len(l))
	}
	return s
}

// by: what is made of a program, which must be one that scope.Check takes.
func by(t *testing.T, make maker, l []tree.Stmt) []tree.Stmt {
	t.Helper()
	out, err := make(l)
	if err != nil || scope.Check(out) != nil {
		t.Fatalf("%s%v, %v, %v", text(t, l), out, err, scope.Check(out))
	}
	return out
}

// becomes fails unless a program, written without needless blanks or not, becomes another one.
func becomes(t *testing.T, make maker, s, want string) {
	t.Helper()
	if got, want := text(t, by(t, make, read(t, s))), text(t, read(t, want)); got != want {
		t.Errorf("%s-- becomes\n%s-- want\n%s", s, got, want)
	}
}

func input() []string { return []string{"one", "", "a b", "\xff\"\n"} }

// does fails unless programs do the same as the first one, with however much fuel.
func does(t *testing.T, programs ...[]tree.Stmt) api.Outcome {
	t.Helper()
	last := api.Outcome{}
	for _, fuel := range []int{0, 1, 7, 40, 1000} {
		for n, l := range programs {
			o, err := walk.Run(l, input(), fuel)
			if err != nil {
				t.Fatal(err)
			}
			if n > 0 && o != last {
				t.Fatalf("fuel %d:\n%s%v\n-- became\n%s%v", fuel, text(t, programs[0]), last, text(t, l), o)
			}
			last = o
		}
	}
	return last
}

// holds asks what P142 says of a program, and answers what was folded, what was pruned, and what it does.
func holds(t *testing.T, l []tree.Stmt) (fold, prune string, o api.Outcome) {
	t.Helper()
	folded, pruned := by(t, small.Fold, l), by(t, small.Prune, l)
	both := by(t, small.Prune, folded)
	o = does(t, l, folded, pruned, both)
	fold, prune = text(t, folded), text(t, pruned)
	if again := text(t, by(t, small.Fold, folded)); again != fold {
		t.Fatalf("folded\n%s-- and again\n%s", fold, again)
	}
	if again := text(t, by(t, small.Prune, pruned)); again != prune {
		t.Fatalf("pruned\n%s-- and again\n%s", prune, again)
	}
	if other := text(t, by(t, small.Fold, pruned)); other != text(t, both) {
		t.Fatalf("%s-- folded and pruned\n%s-- pruned and folded\n%s", text(t, l), text(t, both), other)
	}
	return fold, prune, o
}

// thicken makes a program longer: ints and others are worked out, blocks are left and go on.
func thicken(r *rand.Rand, l []tree.Stmt) []tree.Stmt {
	all := slices.Clone(l)
	var block func([]tree.Stmt, bool, bool) []tree.Stmt
	block = func(l []tree.Stmt, looped, inDef bool) []tree.Stmt {
		var out []tree.Stmt
		for _, s := range l {
			s.L = thickened(r, s.L)
			inner := s.Kind == "while" || s.Kind == "for" || looped && s.Kind != "def"
			s.Body = block(s.Body, inner, inDef || s.Kind == "def")
			s.Else = block(s.Else, inner, inDef || s.Kind == "def")
			out = append(out, s)
			switch kind := []string{"raise", "break", "continue", "return"}[r.Intn(4)]; {
			case r.Intn(15) > 0:
			case kind == "raise":
				out = append(out, tree.Stmt{Kind: kind, L: []tree.Expr{{Op: "int", N: 5}}}, all[r.Intn(len(all))])
			case kind == "return" && inDef || kind != "return" && looped:
				out = append(out, tree.Stmt{Kind: kind}, all[r.Intn(len(all))], all[r.Intn(len(all))])
			}
		}
		return out
	}
	return block(l, false, false)
}

func thickened(r *rand.Rand, l []tree.Expr) []tree.Expr {
	var out []tree.Expr
	for _, e := range l {
		e.L = thickened(r, e.L)
		if op := []string{"or", "+", "-", "and", "*"}[r.Intn(5)]; e.Op == "int" && r.Intn(3) == 0 {
			e = tree.Expr{Op: op, L: []tree.Expr{constants(r, 2), e}}
		}
		out = append(out, e)
	}
	return out
}

// P142: programs of all kinds.
func TestDoesTheSame(t *testing.T) {
	var programs [][]tree.Stmt
	for _, s := range made.Written() {
		programs = append(programs, read(t, s))
	}
	r := rand.New(rand.NewSource(14))
	for seed := range 200 {
		l := made.Program(seed)
		programs = append(programs, l)
		if fat := thicken(r, l); scope.Check(fat) == nil {
			programs = append(programs, fat)
		}
	}
	folded, pruned, ends := 0, 0, map[string]int{}
	for _, l := range programs {
		fold, prune, o := holds(t, l)
		s := text(t, l)
		if fold != s {
			folded++
		}
		if prune != s {
			pruned++
		}
		ends[o.Kind]++
	}
	if len(programs) < 270 || folded < 200 || pruned < 100 || ends["done"] < 50 || ends["raised"] < 50 || ends["tired"] < 10 {
		t.Errorf("%d programs, %d were folded, %d pruned; %v", len(programs), folded, pruned, ends)
	}
}

// P142, P122: so it is if the machine does it.
func TestMachineDoesTheSame(t *testing.T) {
	set := vm.Setting{Config: heap.Config{Half: 256, Old: 65536, Card: 16, Tenure: 1}}
	r := rand.New(rand.NewSource(15))
	for seed := range 40 {
		l := thicken(r, made.Program(seed))
		if scope.Check(l) != nil {
			continue
		}
		want, err := vm.Play(l, input(), 1000, set)
		got, bad := vm.Play(by(t, small.Fold, by(t, small.Prune, l)), input(), 1000, set)
		if err != nil || bad != nil || got != want {
			t.Fatalf("%s%v, %v, want %v, %v", text(t, l), got, bad, want, err)
		}
	}
}

// wideTree: statements in each other, whose two blocks are the same list.
func wideTree(deep int) []tree.Stmt {
	l := []tree.Stmt{{Kind: "pass"}}
	for range deep {
		l = []tree.Stmt{{Kind: "if", L: []tree.Expr{{Op: "None"}}, Body: l, Else: l}}
	}
	return l
}

// wideTerm: terms in each other, whose two parts are the same.
func wideTerm(deep int) []tree.Stmt {
	e := tree.Expr{Op: "int", N: 1}
	for range deep {
		e = tree.Expr{Op: "+", L: []tree.Expr{e, e}}
	}
	return []tree.Stmt{{Kind: "expr", L: []tree.Expr{e}}}
}

// P140, P141, P1, P3: scope.Check's errors, with their places, and nothing else.
func TestErrors(t *testing.T) {
	wrong := map[error][][]tree.Stmt{
		api.ErrShape: {
			{{}}, {{Kind: "expr"}}, {{Kind: "Pass"}}, make([]tree.Stmt, api.MaxSource+1), wideTree(11), wideTree(200), wideTerm(12), wideTerm(200),
			{{Kind: "expr", L: []tree.Expr{{Op: "int", N: -1}}}}, {{Kind: "expr", L: []tree.Expr{{Op: "+", L: []tree.Expr{{Op: "int"}}}}}},
			{{Kind: "expr", L: []tree.Expr{{Op: "int", S: "a"}}}}, {{Kind: "raise", L: []tree.Expr{{Op: "+"}}}}, {{Kind: "expr", L: []tree.Expr{{Op: "neg"}}}},
			{{Kind: "expr", L: []tree.Expr{{Op: "not", L: make([]tree.Expr, 2)}}}}, {{Kind: "break", Body: []tree.Stmt{{Kind: "pass"}}}},
		},
		api.ErrName: {
			read(t, "break"), read(t, "pass\nreturn 1 + 1\nbreak"), read(t, "def f():\n return\n x = 1\n global x"),
			read(t, "while 1:\n def f(a, a):\n  pass"), read(t, "pass\npass\nraise lambda a, a: 1"), read(t, "def f():\n return\n nonlocal y"),
			read(t, "raise 1\ncontinue"),
		},
	}
	for want, l := range wrong {
		for _, l := range l {
			code, at := plain.Code(scope.Check(l))
			for _, make := range []maker{small.Fold, small.Prune} {
				got, err := make(l)
				if c, a := plain.Code(err); !errors.Is(err, want) || c != code || a != at || len(got) > 0 {
					t.Errorf("%v, %v at %d, want %v at %d", got, err, a, want, at)
				}
			}
		}
	}
	for _, l := range [][]tree.Stmt{nil, {}} {
		for _, make := range []maker{small.Fold, small.Prune} {
			if got, err := make(l); len(got) > 0 || err != nil {
				t.Error(got, err)
			}
		}
	}
}

// P1: the longest programs, and the deepest.
func TestLongest(t *testing.T) {
	for s, want := range map[string]string{
		"x = 1" + strings.Repeat(" + 1", 1400) + "\n":                               "x = 1401\n",
		"x = y" + strings.Repeat(" + 1", 1400) + "\n":                               "x = y" + strings.Repeat(" + 1", 1400) + "\n",
		"x = 1 // 0" + strings.Repeat(" or 1", 1100) + "\n":                         "x = 1 // 0" + strings.Repeat(" or 1", 1100) + "\n",
		"x = f" + strings.Repeat("()", 2900) + "(1 + 1)\n":                          "x = f" + strings.Repeat("()", 2900) + "(2)\n",
		"x = " + strings.Repeat("-(", 6) + "1 + 1" + strings.Repeat(")", 6) + "\n":  "x = 2\n",
		"x = " + strings.Repeat("[", 12) + "1 + 1" + strings.Repeat("]", 12) + "\n": "x = " + strings.Repeat("[", 12) + "2" + strings.Repeat("]", 12) + "\n",
	} {
		becomes(t, small.Fold, s, want)
		becomes(t, small.Prune, s, s)
	}
	chain := "def f():\n if 0:\n  return\n  1\n" + strings.Repeat(" elif 0:\n  return\n", 190) + " else:\n  return\n  1\n"
	becomes(t, small.Prune, chain, strings.ReplaceAll(chain, "  1\n", ""))
	many := "raise 1\n" + strings.Repeat("pass\n", 1190)
	becomes(t, small.Prune, many, "raise 1\n")
	becomes(t, small.Fold, many, many)
}

// P4: what is handed over is only read, also behind its lists, and what is answered is nobody else's.
func TestNothingShared(t *testing.T) {
	s := "def f(a, b):\n while 1 + 1:\n  g(a, [1, b + (2 + 3)], lambda x, y: x)\n  break\n  a = {1: 2}[1]\n return a\n global c\ntry:\n if not 0:\n  pass\n else:\n  del a[1 + 1]\nexcept e:\n a[0] = -1\n"
	l, again := roomy(read(t, s)), roomy(read(t, s))
	l = append(l, l...)[:len(l)*2-1] // its lists are there twice
	again = append(again, again...)[:len(again)*2-1]
	for _, make := range []maker{small.Fold, small.Prune} {
		first, second := by(t, make, l), by(t, make, l)
		kept := text(t, second)
		seen := map[any]bool{}
		look(l, seen, func() {})
		look(second, seen, func() { t.Fatal("a list is shared") })
		look(first, seen, func() { t.Fatal("a list is shared") })
		overwrite(first)
		if text(t, second) != kept || !reflect.DeepEqual(l, again) || !reflect.DeepEqual(behind(l), behind(again)) {
			t.Fatal("something was changed")
		}
	}
}

// roomy: a program behind whose lists there is something.
func roomy(l []tree.Stmt) []tree.Stmt {
	out := make([]tree.Stmt, 0, len(l)+1)
	for _, s := range l {
		s.P = append(append(make([]string, 0, len(s.P)+1), s.P...), "behind")[:len(s.P)]
		s.L, s.Body, s.Else = roomyTerms(s.L), roomy(s.Body), roomy(s.Else)
		out = append(out, s)
	}
	return append(out, tree.Stmt{Kind: "behind"})[:len(l)]
}

func roomyTerms(l []tree.Expr) []tree.Expr {
	out := make([]tree.Expr, 0, len(l)+1)
	for _, e := range l {
		e.P = append(append(make([]string, 0, len(e.P)+1), e.P...), "behind")[:len(e.P)]
		e.L = roomyTerms(e.L)
		out = append(out, e)
	}
	return append(out, tree.Expr{Op: "behind"})[:len(l)]
}

// each list of a program is handed over, with all that it has room for.
func each(l []tree.Stmt, statements func([]tree.Stmt), terms func([]tree.Expr), names func([]string)) {
	statements(l[:cap(l)])
	var within func([]tree.Expr)
	within = func(l []tree.Expr) {
		terms(l[:cap(l)])
		for _, e := range l {
			names(e.P[:cap(e.P)])
			within(e.L)
		}
	}
	for _, s := range l {
		names(s.P[:cap(s.P)])
		within(s.L)
		each(s.Body, statements, terms, names)
		each(s.Else, statements, terms, names)
	}
}

// behind: what lies in all lists, and behind them.
func behind(l []tree.Stmt) (out []any) {
	each(l, func(l []tree.Stmt) { out = append(out, slices.Clone(l)) }, func(l []tree.Expr) { out = append(out, slices.Clone(l)) }, func(l []string) { out = append(out, slices.Clone(l)) })
	return out
}

// look marks the places of all that lies in lists as seen, and tells if one was.
func look(l []tree.Stmt, seen map[any]bool, found func()) {
	mark := func(p any) {
		if seen[p] {
			found()
		}
		seen[p] = true
	}
	each(l, func(l []tree.Stmt) {
		for i := range l {
			mark(&l[i])
		}
	}, func(l []tree.Expr) {
		for i := range l {
			mark(&l[i])
		}
	}, func(l []string) {
		for i := range l {
			mark(&l[i])
		}
	})
}

func overwrite(l []tree.Stmt) {
	for i := range l {
		overwrite(l[i].Body)
		overwrite(l[i].Else)
		overwriteTerms(l[i].L)
		clear(l[i].P[:cap(l[i].P)])
	}
	clear(l[:cap(l)])
}

func overwriteTerms(l []tree.Expr) {
	for i := range l {
		overwriteTerms(l[i].L)
		clear(l[i].P[:cap(l[i].P)])
	}
	clear(l[:cap(l)])
}

// P2: calls side by side do not touch each other.
func TestSideBySide(t *testing.T) {
	l := made.Program(7)
	fold, prune, _ := holds(t, l)
	var all sync.WaitGroup
	for range 16 {
		all.Go(func() {
			folded, _ := small.Fold(l)
			pruned, _ := small.Prune(l)
			first, _ := tree.Text(folded)
			if second, _ := tree.Text(pruned); first != fold || second != prune {
				t.Error(first, second)
			}
		})
	}
	all.Wait()
}
