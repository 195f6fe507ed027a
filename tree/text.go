package tree

import (
	"slices"
	"strconv"

	"nurserypy/api"
	"nurserypy/lex"
)

// Text of a program.
func Text(l []Stmt) (string, error) {
	w := writer{ranks: ranks()}
	w.statements(l, 0)
	if w.lost {
		return "", api.ErrShape
	}
	// Trees may hold anything anywhere: whether they are a program's shows when it is read.
	s := string(w.text)
	again, err := Read(s)
	if err != nil || !slices.EqualFunc(l, again, sameStmt) {
		return "", api.ErrShape
	}
	return s, nil
}

func sameStmt(a, b Stmt) bool {
	return a.Kind == b.Kind && a.Name == b.Name && slices.Equal(a.P, b.P) &&
		slices.EqualFunc(a.L, b.L, sameExpr) &&
		slices.EqualFunc(a.Body, b.Body, sameStmt) &&
		slices.EqualFunc(a.Else, b.Else, sameStmt)
}

func sameExpr(a, b Expr) bool {
	return a.Op == b.Op && a.N == b.N && a.S == b.S && slices.Equal(a.P, b.P) &&
		slices.EqualFunc(a.L, b.L, sameExpr)
}

// A writer lays trees out as a program, without asking whether they are one, and is lost as soon as that shows, or it is too long.
type writer struct {
	ranks [][]string
	text  []byte
	terms int // how many were begun: each of them has a byte of its own
	lost  bool
}

func (w *writer) put(parts ...string) {
	for _, p := range parts {
		if len(w.text)+len(p) > api.MaxSource {
			w.lost = true
			return
		}
		w.text = append(w.text, p...)
	}
}

// several writes so many, with commas between.
func (w *writer) several(n int, one func(i int)) {
	for i := range n {
		if w.lost {
			return
		}
		if i > 0 {
			w.put(", ")
		}
		one(i)
	}
}

func (w *writer) names(l []string) {
	w.several(len(l), func(i int) { w.put(l[i]) })
}

func (w *writer) statements(l []Stmt, deep int) {
	for _, s := range l {
		if w.lost {
			return
		}
		w.begin(deep)
		w.statement(s, deep)
	}
}

// begin writes the blanks ahead of a line.
func (w *writer) begin(deep int) {
	for range deep {
		w.put("    ")
	}
}

func (w *writer) block(l []Stmt, deep int) {
	w.put(":\n")
	w.statements(l, deep+1)
}

func (w *writer) statement(s Stmt, deep int) {
	if len(s.L) < termsOf(s.Kind) {
		w.lost = true
		return
	}
	switch s.Kind {
	case "if":
		w.choice("if ", s, deep)
	case "while":
		w.put("while ")
		w.term(s.L[0])
		w.block(s.Body, deep)
	case "for":
		w.put("for ", s.Name, " in ")
		w.term(s.L[0])
		w.block(s.Body, deep)
	case "def":
		w.put("def ", s.Name, "(")
		w.names(s.P)
		w.put(")")
		w.block(s.Body, deep)
	case "try":
		w.put("try")
		w.block(s.Body, deep)
		w.begin(deep)
		w.put("except ", s.Name)
		w.block(s.Else, deep)
	default:
		w.line(s)
		w.put("\n")
	}
}

// termsOf: how many terms a statement of that kind has at least.
func termsOf(kind string) int {
	switch kind {
	case "expr", "set", "if", "while", "for", "raise":
		return 1
	case "del":
		return 2
	case "put":
		return 3
	}
	return 0
}

func (w *writer) choice(word string, s Stmt, deep int) {
	if len(s.L) < termsOf("if") {
		w.lost = true
		return
	}
	w.put(word)
	w.term(s.L[0])
	w.block(s.Body, deep)
	if w.lost || len(s.Else) == 0 {
		return
	}
	w.begin(deep)
	if len(s.Else) == 1 && s.Else[0].Kind == "if" {
		w.choice("elif ", s.Else[0], deep)
		return
	}
	w.put("else")
	w.block(s.Else, deep)
}

// line writes a statement without a block, up to its newline.
func (w *writer) line(s Stmt) {
	switch s.Kind {
	case "expr":
		w.term(s.L[0])
	case "set":
		w.put(s.Name, " = ")
		w.term(s.L[0])
	case "put":
		w.index(s.L)
		w.put(" = ")
		w.term(s.L[2])
	case "del":
		w.put("del ")
		w.index(s.L)
	case "raise":
		w.put("raise ")
		w.term(s.L[0])
	case "return":
		w.put("return")
		if len(s.L) > 0 {
			w.put(" ")
			w.term(s.L[0])
		}
	case "break", "continue", "pass":
		w.put(s.Kind)
	case "global", "nonlocal":
		w.put(s.Kind, " ")
		w.names(s.P)
	default:
		w.lost = true
	}
}

func (w *writer) term(e Expr) {
	w.ranked(e, lambdas)
}

// ranked writes a term where one of that rank, or of a tighter one, can stand without brackets.
func (w *writer) ranked(e Expr, least int) {
	w.terms++
	if w.terms > api.MaxSource || len(e.L) < partsOf(e.Op) {
		w.lost = true
	}
	if w.lost {
		return
	}
	own := w.rankOf(e.Op)
	if own >= least {
		w.bare(e, own)
		return
	}
	w.put("(")
	w.bare(e, own)
	w.put(")")
}

func (w *writer) rankOf(op string) int {
	for rank, ops := range w.ranks {
		if slices.Contains(ops, op) {
			return rank
		}
	}
	return posts
}

// partsOf: how many terms one with that Op has at least.
func partsOf(op string) int {
	switch op {
	case "int", "str", "None", "True", "False", "name", "list", "dict":
		return 0
	case "neg", "not", "call", "lambda":
		return 1
	}
	return 2
}

func (w *writer) bare(e Expr, own int) {
	switch e.Op {
	case "int":
		w.put(strconv.FormatInt(e.N, 10))
	case "str":
		w.str(e.S)
	case "None", "True", "False":
		w.put(e.Op)
	case "name":
		w.put(e.S)
	case "neg":
		w.put("-")
		w.ranked(e.L[0], own)
	case "not":
		w.put("not ")
		w.ranked(e.L[0], own)
	case "call":
		w.ranked(e.L[0], own)
		w.listed("(", e.L[1:], ")")
	case "index":
		w.index(e.L)
	case "list":
		w.listed("[", e.L, "]")
	case "dict":
		w.pairs(e.L)
	case "lambda":
		w.lambda(e)
	default:
		w.sides(e, own)
	}
}

// str does not write what is too long anyway.
func (w *writer) str(s string) {
	if len(s) > api.MaxSource {
		w.lost = true
		return
	}
	w.put(lex.Quote(s))
}

func (w *writer) listed(opening string, l []Expr, closing string) {
	w.put(opening)
	w.several(len(l), func(i int) { w.term(l[i]) })
	w.put(closing)
}

func (w *writer) index(l []Expr) {
	w.ranked(l[0], posts)
	w.listed("[", l[1:2], "]")
}

func (w *writer) pairs(l []Expr) {
	w.put("{")
	w.several(len(l)/2, func(i int) {
		w.term(l[2*i])
		w.put(": ")
		w.term(l[2*i+1])
	})
	w.put("}")
}

func (w *writer) lambda(e Expr) {
	w.put("lambda")
	if len(e.P) > 0 {
		w.put(" ")
		w.names(e.P)
	}
	w.put(": ")
	w.term(e.L[0])
}

// sides writes an op between two terms. A comparison stands alone; others are grouped from the left.
func (w *writer) sides(e Expr, own int) {
	left := own
	if own == comparisons {
		left++
	}
	w.ranked(e.L[0], left)
	w.put(" ", e.Op, " ")
	w.ranked(e.L[1], own+1)
}
