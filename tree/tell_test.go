package tree_test

import (
	"errors"
	"slices"
	"strconv"
	"strings"
	"testing"

	"nurserypy/api"
	"nurserypy/tree"
)

// tellTerm writes all fields of a term that are not zero, in brackets.
func tellTerm(e tree.Expr) string {
	out := "(" + e.Op
	if e.N != 0 {
		out += " N" + strconv.FormatInt(e.N, 10)
	}
	if e.S != "" {
		out += " S" + strconv.Quote(e.S)
	}
	if len(e.P) > 0 {
		out += " P" + strings.Join(e.P, ",")
	}
	for _, x := range e.L {
		out += " " + tellTerm(x)
	}
	return out + ")"
}

// tell writes all fields of statements that are not zero.
func tell(l []tree.Stmt) string {
	var out []string
	for _, s := range l {
		one := s.Kind
		if s.Name != "" {
			one += " " + s.Name
		}
		if len(s.P) > 0 {
			one += " P" + strings.Join(s.P, ",")
		}
		for _, x := range s.L {
			one += " " + tellTerm(x)
		}
		if len(s.Body) > 0 {
			one += " {" + tell(s.Body) + "}"
		}
		if len(s.Else) > 0 {
			one += " else {" + tell(s.Else) + "}"
		}
		out = append(out, one)
	}
	return strings.Join(out, "; ")
}

func num(n int64) tree.Expr     { return tree.Expr{Op: "int", N: n} }
func str(s string) tree.Expr    { return tree.Expr{Op: "str", S: s} }
func name(s string) tree.Expr   { return tree.Expr{Op: "name", S: s} }
func plain(op string) tree.Expr { return tree.Expr{Op: op} }

func term(op string, l ...tree.Expr) tree.Expr { return tree.Expr{Op: op, L: l} }

func lambda(e tree.Expr, p ...string) tree.Expr {
	return tree.Expr{Op: "lambda", P: p, L: []tree.Expr{e}}
}

func stmt(kind string, l ...tree.Expr) tree.Stmt { return tree.Stmt{Kind: kind, L: l} }

func block(l ...tree.Stmt) []tree.Stmt { return l }

func copyTerms(l []tree.Expr) []tree.Expr {
	l = slices.Clone(l)
	for i := range l {
		l[i].P = slices.Clone(l[i].P)
		l[i].L = copyTerms(l[i].L)
	}
	return l
}

func copyStmts(l []tree.Stmt) []tree.Stmt {
	l = slices.Clone(l)
	for i := range l {
		l[i].P = slices.Clone(l[i].P)
		l[i].L = copyTerms(l[i].L)
		l[i].Body = copyStmts(l[i].Body)
		l[i].Else = copyStmts(l[i].Else)
	}
	return l
}

// reads fails unless the program is these statements.
func reads(t *testing.T, s string, want ...tree.Stmt) {
	t.Helper()
	l, err := tree.Read(s)
	if err != nil || tell(l) != tell(want) {
		t.Errorf("%q: %s, %v; want %s", s, tell(l), err, tell(want))
	}
}

// faults fails unless the program is refused so, there.
func faults(t *testing.T, s string, at int, want error) {
	t.Helper()
	l, err := tree.Read(s)
	var f *api.Fault
	if !errors.As(err, &f) || err != error(f) || f.At != at || f.Err != want {
		t.Errorf("%q: %s, %#v; want %v at %d", s, tell(l), err, want, at)
	}
	if len(l) != 0 {
		t.Errorf("%q: statements beside an error: %s", s, tell(l))
	}
}

// writes fails unless the statements have this text, and the text these statements.
func writes(t *testing.T, want string, l ...tree.Stmt) {
	t.Helper()
	s, err := tree.Text(l)
	if err != nil || s != want {
		t.Errorf("%s: %q, %v; want %q", tell(l), s, err, want)
	}
	reads(t, want, l...)
}

// noText fails unless no program is these statements.
func noText(t *testing.T, what string, l []tree.Stmt) {
	t.Helper()
	if s, err := tree.Text(l); s != "" || err != api.ErrShape {
		t.Errorf("%s: %q, %v", what, s, err)
	}
}
