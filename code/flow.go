package code

const none = -1

// A state is how an op is come to. Each op has just one, so that the tries that are open are told by the last one of them: the others were open where it began.
type state struct {
	values int
	try    int // the op that began it, or none
}

// A flow goes through the ops of one Func, along all jumps.
type flow struct {
	ops   []Op
	known map[string]shape
	at    []state
	come  []bool
	work  []int // ops that were come to, from which it has not gone on
}

// flows: whether each op that can be come to has what it takes, and is always come to in the same way.
func flows(ops []Op, known map[string]shape) bool {
	f := &flow{ops: ops, known: known, at: make([]state, len(ops)), come: make([]bool, len(ops))}
	if !f.to(0, state{try: none}) {
		return false
	}
	for len(f.work) > 0 {
		last := len(f.work) - 1
		n := f.work[last]
		f.work = f.work[:last]
		if !f.from(n) {
			return false
		}
	}
	return true
}

// to: whether an op may be come to so.
func (f *flow) to(n int, s state) bool {
	if n >= len(f.ops) || s.values > maxValues {
		return false
	}
	if f.come[n] {
		return f.at[n] == s
	}
	f.come[n] = true
	f.at[n] = s
	f.work = append(f.work, n)
	return true
}

// from: whether an op has what it takes, and all that it goes on to may be come to.
func (f *flow) from(n int) bool {
	op, s := f.ops[n], f.at[n]
	as := f.known[op.Name]
	takes := as.takes + as.each*op.A
	if takes > f.free(s) {
		return false
	}
	s.values -= takes
	if as.a == ofOp && !f.to(op.A, state{values: s.values + as.far, try: s.try}) {
		return false
	}
	switch {
	case op.Name == "try":
		s.try = n
	case op.Name == "end" && s.try == none:
		return false
	case op.Name == "end":
		s.try = f.at[s.try].try
	}
	s.values += as.puts
	return as.stops || f.to(n+1, s)
}

// free: how many values may be taken. Those that were there at a try are left for what catches.
func (f *flow) free(s state) int {
	if s.try == none {
		return s.values
	}
	return s.values - f.at[s.try].values
}
