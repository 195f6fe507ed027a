package walk

import (
	"slices"

	"nurserypy/scope"
	"nurserypy/tree"
)

// A stmt is a statement that knows its number, and what function it makes.
type stmt struct {
	tree.Stmt
	number     int
	terms      []expr
	body, rest []stmt // rest: the Else
	makes      *recipe
}

// An expr is a term that knows what function it makes.
type expr struct {
	tree.Expr
	parts []expr
	makes *recipe
}

// A recipe is what all functions of one def, or of one lambda, have in common.
type recipe struct {
	name   string
	params []string
	own    []string // locals and cells
	frees  []string
	body   []stmt // of a def
	term   expr   // of a lambda
}

// planned: a program whose defs and lambdas are put together with their scopes.
func planned(l []tree.Stmt, scopes []scope.Scope) []stmt {
	p := planner{scopes: scopes[1:]} // the first one is the program's
	return p.statements(l)
}

// A planner goes through a program in the order of its text, which is that of its scopes, too.
type planner struct {
	scopes []scope.Scope // those that did not yet begin
	begun  int           // how many statements were
}

func (p *planner) recipe(params []string) *recipe {
	s := p.scopes[0]
	p.scopes = p.scopes[1:]
	return &recipe{name: s.Name, params: params, own: slices.Concat(s.Locals, s.Cells), frees: s.Frees}
}

func (p *planner) statements(l []tree.Stmt) []stmt {
	var out []stmt
	for _, s := range l {
		out = append(out, p.statement(s))
	}
	return out
}

func (p *planner) statement(s tree.Stmt) stmt {
	out := stmt{Stmt: s, number: p.begun, terms: p.terms(s.L)}
	p.begun++
	if s.Kind == "def" {
		out.makes = p.recipe(s.P)
		out.makes.body = p.statements(s.Body)
		return out
	}
	out.body = p.statements(s.Body)
	out.rest = p.statements(s.Else)
	return out
}

func (p *planner) terms(l []tree.Expr) []expr {
	var out []expr
	for _, e := range l {
		out = append(out, p.term(e))
	}
	return out
}

func (p *planner) term(e tree.Expr) expr {
	out := expr{Expr: e}
	if e.Op == "lambda" {
		out.makes = p.recipe(e.P)
		out.makes.term = p.term(e.L[0])
		return out
	}
	out.parts = p.terms(e.L)
	return out
}
