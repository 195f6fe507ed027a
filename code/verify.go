package code

import "nurserypy/api"

const (
	maxFuncs  = 400
	maxPool   = 2000 // ints, strs, names
	maxCount  = 400  // params, locals, cells, frees
	maxValues = 1000 // on the stack, or taken by one op
)

// Verify code.
func Verify(c Code) error {
	if Count(c) > api.MaxCode || len(c.Funcs) > maxFuncs || len(c.Ints) > maxPool || len(c.Strs) > maxPool || len(c.Names) > maxPool {
		return api.ErrBound
	}
	if !counted(c.Funcs) {
		return api.ErrShape
	}
	known := shapes()
	for n, f := range c.Funcs {
		if !wellFormed(c, n, known) || !flows(f.Ops, known) {
			return &api.Fault{At: n, Err: api.ErrShape}
		}
	}
	return nil
}

// counted: whether there is a program, and each Func has as many of all as it may have.
func counted(l []Func) bool {
	if len(l) == 0 || l[0].Params != 0 || l[0].Locals != 0 || l[0].Cells != 0 || l[0].Frees != 0 {
		return false
	}
	for _, f := range l {
		for _, n := range []int{f.Params, f.Locals, f.Cells, f.Frees} {
			if n < 0 || n > maxCount {
				return false
			}
		}
		if f.Params > f.Locals {
			return false
		}
	}
	return true
}

// wellFormed: whether each op of a Func may stand where it does, come to or not.
func wellFormed(c Code, n int, known map[string]shape) bool {
	f := c.Funcs[n]
	numbers := howMany(c, f)
	takes := 0 // that are still due
	for _, op := range f.Ops {
		s, ok := known[op.Name]
		if !ok || op.A < 0 || op.A >= numbers[s.a] || (op.Name == "take") != (takes > 0) {
			return false
		}
		if s.a == ofOp && f.Ops[op.A].Name == "take" {
			return false
		}
		switch op.Name {
		case "take":
			takes--
		case "closure":
			takes = c.Funcs[op.A].Frees
		case "halt":
			ok = n == 0
		case "return":
			ok = n != 0
		}
		if !ok {
			return false
		}
	}
	return takes == 0
}

// howMany numbers, from 0 on, an A may be, by what it is a number of.
func howMany(c Code, f Func) [kindsOfA]int {
	return [kindsOfA]int{
		ofNothing: 1,
		ofConst:   api.True + 1,
		ofInt:     len(c.Ints),
		ofStr:     len(c.Strs),
		ofName:    len(c.Names),
		ofLocal:   f.Locals,
		ofCell:    f.Cells + f.Frees,
		ofFunc:    len(c.Funcs),
		ofOp:      len(f.Ops),
		ofValues:  maxValues + 1,
	}
}
