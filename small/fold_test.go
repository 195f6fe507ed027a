package small_test

import (
	"math/rand"
	"slices"
	"strings"
	"testing"

	"nurserypy/small"
	"nurserypy/tree"
	"nurserypy/walk"
)

// P140: terms, and what becomes of them.
func TestFold(t *testing.T) {
	for s, want := range map[string]string{
		// ints
		"1 + 2 * 3": "7", "(1 + 2) * 3": "9", "7 - 2 - 5": "0", "7 // 2": "3", "7 % 4": "3", "0 * 5": "0", "5": "5",
		"9223372036854775806 + 1": "9223372036854775807", "9223372036854775807 + 1": "9223372036854775807 + 1",
		"3037000499 * 3037000499": "9223372030926249001", "3037000500 * 3037000500": "3037000500 * 3037000500",
		// below 0: such a term stays, but what is made of it does not
		"-5": "-5", "3 - 5": "3 - 5", "-5 + 7": "2", "--5": "5", "---5": "-5", "-(2 + 3)": "-5", "-0": "0", "-(3 - 5)": "2", "3 - 5 + 7": "5", "1 + (2 - 9)": "1 + (2 - 9)",
		"(1 + 1) - 5": "2 - 5", "-7 // 2": "-7 // 2", "-7 % 4": "1", "7 % -4": "7 % -4", "-7 // -2": "3", "0 // -5": "0", "-1 * -1": "1", "3 - 5 < 0": "True", "-1 == 1 - 2": "True",
		"1 and -5": "1 and -5", "0 or 3 - 5": "0 or 3 - 5", "(1 and -5) + 7": "2", "not -1": "False", "-1 is -1": "True",
		"-9223372036854775807 - 1": "-9223372036854775807 - 1", "-9223372036854775807 - 2": "-9223372036854775807 - 2", "(-9223372036854775807 - 1) % -1": "0",
		"-(-9223372036854775807 - 1)": "-(-9223372036854775807 - 1)", "(-9223372036854775807 - 1) // -1": "(-9223372036854775807 - 1) // -1",
		"-9223372036854775807 - 1 + 9223372036854775807 + 1": "0", "-9223372036854775807 - 1 < 0": "True",
		// strs
		`"a" + "b"`: `"ab"`, `"a" + "b" == "ab"`: "True", `"a" < "b"`: "True", `"b" <= "a"`: "False", `"" or "x"`: `"x"`, `"\n" + "\"\xff"`: `"\n\"\xff"`, `"a" is "a"`: "True", `"a" + ""`: `"a"`,
		// bools and None
		"True == 1": "False", "False != 0": "True", "None == None": "True", "None is False": "False", "not None": "True", "not True": "False", "1 and None": "None", "None or False": "False",
		`"" and 1`: `""`, "0 and 1": "0", "2 or 3": "2", "not not 7": "True", "(1 == 1) == True": "True", "1 < 2 and 2 < 3": "True",
		// what raises
		"1 // 0": "1 // 0", "1 % 0": "1 % 0", `1 < "a"`: `1 < "a"`, "None < None": "None < None", "True + 1": "True + 1", "-True": "-True", `-"a"`: `-"a"`, `"a" - "a"`: `"a" - "a"`, `"a" * 3`: `"a" * 3`,
		`1 + "a"`: `1 + "a"`, "None + None": "None + None", "True >= False": "True >= False", "(1 + 1) // 0": "2 // 0", "1 // 0 == 1 + 1": "1 // 0 == 2", "not 1 // (1 - 1)": "not 1 // 0",
		"1 // 0 or True": "1 // 0 or True", "False or 1 // 0": "False or 1 // 0", "1 // (2 - 2) + 3 * 3": "1 // 0 + 9",
		// what raises, but is not worked out
		"True or 1 // 0": "True", "0 and 1 // 0": "0", "(1 or 1 // 0) + 1": "2", "None and -None": "None",
		// what is not of these alone
		"x": "x", "x + 1 + 1": "x + 1 + 1", "1 + 1 + x": "2 + x", "1 or x": "1 or x", "x or 1 + 1": "x or 2", "not x": "not x", "-x": "-x", "x == x": "x == x", "0 * x": "0 * x", "-(1 + 1) * x": "-2 * x",
		"not [] or not 0": "not [] or True", "[] == []": "[] == []", "[1] + [1 + 1]": "[1] + [2]", "{} is {}": "{} is {}", "1 in [1]": "1 in [1]", `"a" in "a" + "b"`: `"a" in "ab"`, "(1 in 1 + 1) == (2 == 2)": "(1 in 2) == True",
		`"ab"[1 - 1]`: `"ab"[0]`, `len("a" + "b") + (1 + 2)`: `len("ab") + 3`, "(lambda: 1 + 1)()": "(lambda: 2)()", "lambda x: x + (1 + 1)": "lambda x: x + 2", "(lambda: 1) == 1": "(lambda: 1) == 1",
		"f(1 + 1)(2 + 2)[3 + 3]": "f(2)(4)[6]", "[[1 + 1], [-(1 + 1)]]": "[[2], [-2]]", "{1 + 1: 2 + 2, x: not 0}": "{2: 4, x: True}", "(1 + 2)(3)": "3(3)", "not (1 + 1 in x)": "not 2 in x",
	} {
		becomes(t, small.Fold, "x = "+s, "x = "+want)
		becomes(t, small.Fold, "f("+s+")", "f("+want+")")
	}
}

// P140: strs up to MaxLength bytes, and longer ones, which may stand in a program, but raise.
func TestLongStrs(t *testing.T) {
	a := func(n int) string { return `"` + strings.Repeat("a", n) + `"` }
	for s, want := range map[string]string{
		a(2000):                                a(2000),
		a(2001):                                a(2001),
		a(1000) + " + " + a(1000):              a(2000),
		a(1000) + " + " + a(1001):              a(1000) + " + " + a(1001),
		a(999) + " + " + a(1001) + ` + "b"`:    a(2000) + ` + "b"`,
		a(1000) + " + " + a(1001) + ` == "b"`:  a(1000) + " + " + a(1001) + ` == "b"`,
		"0 or " + a(2000):                      a(2000),
		"0 or " + a(2001):                      "0 or " + a(2001),
		"1 or " + a(2001):                      "1",
		"not " + a(2000):                       "False",
		"not " + a(2001):                       "not " + a(2001),
		a(2001) + " == 1":                      a(2001) + " == 1",
		"1 is " + a(2001):                      "1 is " + a(2001),
		a(2001) + " and 1 + 1":                 a(2001) + " and 2",
		`"\xff` + a(1999)[1:] + ` + ""`:        `"\xff` + a(1999)[1:],
		a(1) + " + " + a(1999) + " < " + a(10): "False",
	} {
		becomes(t, small.Fold, "x = "+s, "x = "+want)
	}
}

// P140: everywhere in a program; statements stay, whatever their terms are.
func TestFoldPlaces(t *testing.T) {
	from := []string{"1 + 1", "not 0", "2 * 3"}
	to := []string{"2", "True", "6"}
	for _, s := range []string{
		"A\n", "x = A\n", "x[A] = B\n", "(A)[B] = C\n", "[A][B] = C\n", "del x[A]\n", "del {A: B}[C]\n", "raise A\n",
		"if A:\n    x = B\nelif C:\n    B\nelse:\n    raise A\n", "while A:\n    B\n    break\n", "for x in A:\n    B\n    continue\n", "for x in [A, B]:\n    C\n",
		"def f(a, b):\n    A\n    return B\n    return\n    C\n", "try:\n    A\nexcept e:\n    B\nC\n", "x = lambda a, b: A\n", "f(A, lambda: f(B)[C])\n",
		"if 0:\n    pass\nelse:\n    global_ = A\n", "def f():\n    x = 1\n    def g():\n        global y\n        nonlocal x\n        y = A\n",
		"while False:\n    if False:\n        print(A)\n    break\n    print(B)\n", "pass\nraise A\nB\n",
	} {
		in, out := s, s
		for n, name := range []string{"A", "B", "C"} {
			in, out = strings.ReplaceAll(in, name, "("+from[n]+")"), strings.ReplaceAll(out, name, to[n])
		}
		becomes(t, small.Fold, in, out)
	}
}

func operators() []string {
	return strings.Fields("neg not + - * // % == != < <= > >= is and or")
}

// isConstant: a term of ints, bools, strs and None alone.
func isConstant(e tree.Expr) bool {
	leaf := slices.Contains(strings.Fields("int str None True False"), e.Op)
	return leaf || slices.Contains(operators(), e.Op) && !slices.ContainsFunc(e.L, func(e tree.Expr) bool { return !isConstant(e) })
}

// comesTo: what a run finds a term to be, if it raises nothing and is not below 0.
func comesTo(t *testing.T, e tree.Expr) (tree.Expr, bool) {
	t.Helper()
	run := func(kind string, e tree.Expr) (string, string) {
		o, err := walk.Run([]tree.Stmt{{Kind: kind, L: []tree.Expr{e}}}, nil, 9)
		if err != nil {
			t.Fatal(e, err)
		}
		return o.Value, o.Output
	}
	if wrong, _ := run("expr", e); wrong != "" {
		return tree.Expr{}, false
	}
	repr, _ := run("raise", e)
	if repr == `"OverflowError"` { // the repr of a str may be too long, the str is not
		_, line := run("expr", tree.Expr{Op: "call", L: []tree.Expr{{Op: "name", S: "print"}, e}})
		return tree.Expr{Op: "str", S: strings.TrimSuffix(line, "\n")}, true
	}
	if repr[0] == '-' {
		return tree.Expr{}, false
	}
	return read(t, repr)[0].L[0], true
}

// model: a term of which each part, and itself, is asked of a run.
func model(t *testing.T, e tree.Expr) tree.Expr {
	t.Helper()
	if isConstant(e) {
		if value, ok := comesTo(t, e); ok {
			return value
		}
	}
	e.L = slices.Clone(e.L)
	for n := range e.L {
		e.L[n] = model(t, e.L[n])
	}
	return e
}

func modelOf(t *testing.T, l []tree.Stmt) []tree.Stmt {
	t.Helper()
	l = slices.Clone(l)
	for n := range l {
		l[n].L = model(t, tree.Expr{Op: "list", L: l[n].L}).L
		l[n].Body, l[n].Else = modelOf(t, l[n].Body), modelOf(t, l[n].Else)
	}
	return l
}

// folds fails unless a program is folded as the model does it. It answers whether anything was.
func folds(t *testing.T, l []tree.Stmt) bool {
	t.Helper()
	got, want := text(t, by(t, small.Fold, l)), text(t, modelOf(t, l))
	if got != want {
		t.Fatalf("%s-- becomes\n%s-- want\n%s", text(t, l), got, want)
	}
	return got != text(t, l)
}

// leaves of terms: what is at bounds, and what raises, too.
func leaves() []tree.Expr {
	var out []tree.Expr
	for _, n := range []int64{0, 1, 2, 3, 7, 3037000500, 1 << 61, 1<<63 - 1} {
		out = append(out, tree.Expr{Op: "int", N: n}, tree.Expr{Op: "neg", L: []tree.Expr{{Op: "int", N: n}}})
	}
	least := tree.Expr{Op: "-", L: []tree.Expr{out[len(out)-1], {Op: "int", N: 1}}}
	for _, s := range []string{"", "a", "ab", "b", "\n\"\xff", strings.Repeat("\x00", 700), strings.Repeat("x", 1100), strings.Repeat("x", 2001)} {
		out = append(out, tree.Expr{Op: "str", S: s})
	}
	for _, op := range []string{"None", "True", "False"} {
		out = append(out, tree.Expr{Op: op})
	}
	return append(out, least, tree.Expr{Op: "neg", L: []tree.Expr{least}})
}

// P140: all operators, of all pairs of such values, as a run has them.
func TestFoldOperators(t *testing.T) {
	folded := map[string]int{}
	for _, op := range append(operators(), "in") {
		for _, left := range leaves() {
			for n, right := range leaves() {
				e := tree.Expr{Op: op, L: []tree.Expr{left, right}}
				if op == "neg" || op == "not" {
					if e.L = e.L[:1]; n > 0 {
						continue
					}
				}
				l := []tree.Stmt{{Kind: "expr", L: []tree.Expr{e}}}
				if folds(t, l) {
					folded[op]++
				}
			}
		}
	}
	for _, op := range operators() {
		if folded[op] < 6 {
			t.Errorf("%s was folded %d times", op, folded[op])
		}
	}
}

// constants: a term that is mostly of plain values alone.
func constants(r *rand.Rand, deep int) tree.Expr {
	if deep == 0 || r.Intn(8) == 0 {
		if r.Intn(30) == 0 {
			return []tree.Expr{{Op: "name", S: "i"}, {Op: "list"}, {Op: "call", L: []tree.Expr{{Op: "name", S: "input"}}}}[r.Intn(3)]
		}
		few := slices.DeleteFunc(leaves(), func(e tree.Expr) bool { return len(e.S) > 100 && r.Intn(9) > 0 })
		return few[r.Intn(len(few))]
	}
	op := append(operators(), "and", "or", "+", "-", "in", "list", "index")[r.Intn(len(operators())+7)]
	e := tree.Expr{Op: op, L: []tree.Expr{constants(r, deep-1), constants(r, deep-1)}}
	if op == "neg" || op == "not" {
		e.L = e.L[:1]
	}
	return e
}

// P140: terms in each other, and programs, as a run has them.
func TestFoldMadeUp(t *testing.T) {
	r := rand.New(rand.NewSource(140))
	folded, whole := 0, 0
	for n := range 1500 {
		l := []tree.Stmt{{Kind: "set", Name: "x", L: []tree.Expr{constants(r, 1+n%5)}}}
		if _, err := tree.Text(l); err != nil {
			continue // too long
		}
		if folds(t, l) {
			folded++
		}
		if isConstant(l[0].L[0]) {
			whole++
		}
	}
	if folded < 500 || whole < 500 {
		t.Errorf("%d were folded; %d are of plain values alone", folded, whole)
	}
}
