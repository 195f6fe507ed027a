package tree

import (
	"strconv"

	"nurserypy/api"
)

func (r *reader) term() Expr {
	return r.ranked(lambdas)
}

// one reads a term that is alone in its statement's list.
func (r *reader) one() []Expr {
	return []Expr{r.term()}
}

// deeper passes a mark that counts against MaxDeep, and reads what stands in it.
func (r *reader) deeper(within func() Expr) Expr {
	if r.deep == api.MaxDeep {
		r.throw(api.ErrBound)
	}
	r.pass()
	r.deep++
	e := within()
	r.deep--
	return e
}

// ranked reads a term of the rank, or of a tighter one.
func (r *reader) ranked(rank int) Expr {
	switch rank {
	case lambdas:
		return r.ahead("lambda", rank, r.lambda)
	case nots:
		return r.ahead("not", rank, func() Expr {
			return Expr{Op: "not", L: []Expr{r.ranked(rank)}}
		})
	case negs:
		return r.ahead("-", rank, func() Expr {
			return Expr{Op: "neg", L: []Expr{r.ranked(rank)}}
		})
	case posts:
		return r.post()
	}
	return r.sides(rank)
}

// ahead reads what stands in the mark, or, where the mark does not stand, a tighter term.
func (r *reader) ahead(mark string, rank int, within func() Expr) Expr {
	if !r.isMark(mark) {
		return r.ranked(rank + 1)
	}
	return r.deeper(within)
}

func (r *reader) lambda() Expr {
	e := Expr{Op: "lambda"}
	r.upTo(":", func() { e.P = append(e.P, r.name()) })
	e.L = r.one()
	return e
}

// sides reads terms between ops, and groups them from the left.
func (r *reader) sides(rank int) Expr {
	e := r.ranked(rank + 1)
	for r.isMark(r.ranks[rank]...) {
		op := r.pass().Text
		e = Expr{Op: op, L: []Expr{e, r.ranked(rank + 1)}}
		if rank == comparisons {
			break
		}
	}
	return e
}

func (r *reader) post() Expr {
	e := r.atom()
	for {
		switch {
		case r.isMark("("):
			e = r.deeper(func() Expr { return Expr{Op: "call", L: r.terms(")", e)} })
		case r.isMark("["):
			e = r.deeper(func() Expr { return Expr{Op: "index", L: []Expr{e, r.closed("]")}} })
		default:
			return e
		}
	}
}

// closed reads a term, and what closes its bracket.
func (r *reader) closed(closing string) Expr {
	e := r.term()
	r.needMark(closing)
	return e
}

// terms reads terms behind those that are there, and what closes their bracket.
func (r *reader) terms(closing string, l ...Expr) []Expr {
	r.upTo(closing, func() { l = append(l, r.term()) })
	return l
}

func (r *reader) atom() Expr {
	switch r.next().Kind {
	case "int":
		// A token of this kind is an int64.
		n, _ := strconv.ParseInt(r.pass().Text, 10, 64)
		return Expr{Op: "int", N: n}
	case "str", "name":
		t := r.pass()
		return Expr{Op: t.Kind, S: t.Text}
	}
	switch {
	case r.isMark("None", "True", "False"):
		return Expr{Op: r.pass().Text}
	case r.isMark("("):
		return r.deeper(func() Expr { return r.closed(")") })
	case r.isMark("["):
		return r.deeper(func() Expr { return Expr{Op: "list", L: r.terms("]")} })
	case r.isMark("{"):
		return r.deeper(func() Expr { return Expr{Op: "dict", L: r.pairs()} })
	}
	r.throw(api.ErrText)
	return Expr{}
}

func (r *reader) pairs() []Expr {
	var l []Expr
	r.upTo("}", func() {
		l = append(l, r.closed(":"))
		l = append(l, r.term())
	})
	return l
}
