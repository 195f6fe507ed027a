package made

import (
	"strings"

	"nurserypy/code"
)

// Code: the one of this seed. code.Verify takes it. It does what no program could say, too: what iter makes is stored
// and asked, locals and cells have no value, the program is called.
func Code(seed int) code.Code {
	c := &coder{maker: maker{state: uint64(seed)*2 + 1}}
	c.Ints = []int64{0, 1, 2, 3, -1, 7, 1 << 61, -1<<61 - 1, 1<<63 - 1, -1 << 63}
	c.Strs = []string{"", "a", "ab", "\n\"\xff", "xyzzyxyzzyxyzzyxyzzy", strings.Repeat("long", 1+500*c.below(2))}
	c.Names = append(strings.Fields("x y z x print "), strings.Fields(callable)...)
	c.Funcs = []code.Func{{Name: []string{"", "main"}[c.below(2)]}}
	for n := range 1 + c.below(4) {
		f := code.Func{Name: string(rune('f' + n)), Params: c.below(3), Cells: c.below(3), Frees: c.below(3)}
		f.Locals = f.Params + c.below(3)
		c.Funcs = append(c.Funcs, f)
	}
	for n := range c.Funcs {
		c.number, c.ops = n, nil
		c.body()
		c.Funcs[n].Ops = c.ops
	}
	return c.Code
}

const callable = "len str push pop keys id range input print collect"

// A coder makes code, Func by Func.
type coder struct {
	maker
	code.Code
	number int // of the Func that is made
	ops    []code.Op
}

func (c *coder) put(name string, a int) int {
	c.ops = append(c.ops, code.Op{Name: name, A: a})
	return len(c.ops) - 1
}

// here: an op that was put goes on here.
func (c *coder) here(op int) { c.ops[op].A = len(c.ops) }

func (c *coder) own() code.Func { return c.Funcs[c.number] }

func (c *coder) body() {
	f := c.own()
	for n := range f.Locals {
		if n >= f.Params && !c.one(3) {
			c.anything(1)
			c.put("store", n)
		}
	}
	for n := range f.Cells {
		if !c.one(3) {
			c.anything(1)
			c.put("fill", n)
		}
	}
	for range 3 + c.below(5) {
		c.caught(3)
	}
	c.last()
}

// last: how a Func ends.
func (c *coder) last() {
	if c.number == 0 {
		c.put("halt", 0)
		return
	}
	c.anything(2)
	c.put("return", 0)
}

func (c *coder) block(deep int) {
	for range 1 + c.below(3) {
		c.piece(deep)
	}
}

// caught: what is raised in a piece is mostly told, and it goes on.
func (c *coder) caught(deep int) {
	if c.one(5) {
		c.piece(deep)
		return
	}
	try := c.put("try", 0)
	c.block(deep)
	c.put("end", 0)
	out := c.put("jump", 0)
	c.here(try)
	c.put("name", 0)
	c.tell(func() { c.put("global", 0) })
	c.here(out)
}

// tell a value: it is printed.
func (c *coder) tell(value func()) {
	c.builtin("print")
	value()
	c.put("call", 1)
	c.put("pop", 0)
}

func (c *coder) builtin(name string) {
	for n, s := range c.Names {
		if s == name {
			c.put("global", n)
			return
		}
	}
}

func (c *coder) piece(deep int) {
	if c.one(3) {
		c.put("step", 0)
	}
	if deep > 0 && c.one(2) {
		c.around(deep)
		return
	}
	switch c.below(7) {
	case 0:
		c.tell(func() { c.anything(3) })
	case 1, 2:
		c.become()
	case 3:
		c.of(lists, 1)
		c.of(ints, 1)
		c.anything(2)
		c.put("put", 0)
	case 4:
		c.of(dicts, 1)
		c.anything(1)
		c.anything(2)
		c.put("put", 0)
	case 5:
		c.of([]string{lists, dicts}[c.below(2)], 2)
		c.of(ints, 1)
		c.put("del", 0)
	case 6:
		c.anything(3)
		c.put("pop", 0)
	}
}

// become: something is kept by a name.
func (c *coder) become() {
	c.anything(3)
	f := c.own()
	switch n := c.below(3); {
	case n == 0 && f.Locals > 0:
		c.put("store", c.below(f.Locals))
	case n == 1 && f.Cells+f.Frees > 0:
		c.put("fill", c.below(f.Cells+f.Frees))
	default:
		c.put("name", c.below(4))
	}
}

func (c *coder) around(deep int) {
	switch c.below(6) {
	case 0:
		c.anything(2)
		other := c.put("unless", 0)
		c.block(deep - 1)
		out := c.put("jump", 0)
		c.here(other)
		c.block(deep - 1)
		c.here(out)
	case 1:
		top := len(c.ops)
		if !c.one(8) {
			c.put("step", 0)
		}
		c.anything(2)
		out := c.put("unless", 0)
		c.block(deep - 1)
		c.put("jump", top)
		c.here(out)
	case 2, 3:
		c.of([]string{lists, lists, dicts, strs, "iter"}[c.below(5)], 2)
		if !c.one(20) {
			c.put("iter", 0)
		}
		top := c.put("next", 0)
		c.put([]string{"name", "pop"}[c.below(2)], 0)
		c.block(deep - 1)
		c.put("jump", top)
		c.here(top)
	case 4:
		c.caught(deep - 1)
	case 5:
		c.anything(1)
		skip := c.put("unless", 0)
		if c.one(3) {
			c.anything(2)
			c.put("raise", 0)
		} else {
			c.last()
		}
		c.here(skip)
	}
}

// SpoilCode changes some op of code, whatever: which one hangs on the seed. code.Verify may still take it.
func SpoilCode(c code.Code, seed int) {
	m := &maker{state: uint64(seed)*2 + 1}
	f := &c.Funcs[m.below(len(c.Funcs))]
	at, other := m.below(len(f.Ops)), m.below(len(f.Ops))
	op := &f.Ops[at]
	switch m.below(5) {
	case 0:
		op.A = m.below(len(f.Ops))
	case 1:
		op.A = m.below(4)
	case 2:
		*op, f.Ops[other] = f.Ops[other], *op
	case 3:
		*op = f.Ops[other]
	case 4:
		for _, like := range []string{"add sub mul div mod eq ne lt le gt ge is in index", "neg not iter", "const int str global load cell", "pop name store fill", "list call", "jump step end"} {
			if strings.Contains(" "+like+" ", " "+op.Name+" ") {
				op.Name = m.pick(like)
				return
			}
		}
	}
}
