package made

// anything: one value more, of some kind.
func (c *coder) anything(deep int) {
	switch {
	case c.one(3):
		c.named()
	case c.one(4):
		c.odd(deep)
	default:
		c.of(c.kind(), deep)
	}
}

// named: the value of a name, which may have none.
func (c *coder) named() {
	f := c.own()
	switch n := c.below(4); {
	case n == 0 && f.Locals > 0:
		c.put("load", c.below(f.Locals))
	case n == 1 && f.Cells+f.Frees > 0:
		c.put("cell", c.below(f.Cells+f.Frees))
	case n == 2:
		c.put("global", c.below(len(c.Names)))
	default:
		c.put("global", c.below(4))
	}
}

// odd: constants, comparisons, and what only code makes.
func (c *coder) odd(deep int) {
	if deep <= 0 {
		c.put("const", c.below(3))
		return
	}
	switch c.below(6) {
	case 0:
		c.of([]string{lists, dicts, strs, ints}[c.below(4)], deep-1)
		c.put("iter", 0)
	case 1:
		c.anything(deep - 1)
		c.put("dup", 0)
		c.put(c.pick("eq is in pop add"), 0)
	case 2:
		c.anything(deep - 1)
		c.anything(deep - 1)
		c.put(c.pick("eq ne is in lt le gt ge index"), 0)
	case 3:
		c.anything(deep - 1)
		c.put("not", 0)
	case 4:
		c.anything(deep - 1)
		c.put("iter", 0)
		over := c.put("next", 0) // its first element, or None
		c.put("dup", 0)
		c.put("pop", 0)
		c.put("list", 2)
		out := c.put("jump", 0)
		c.here(over)
		c.put("const", 0)
		c.here(out)
	default:
		c.called(deep)
	}
}

// called: a call of a function, with some arguments.
func (c *coder) called(deep int) {
	if c.one(2) {
		c.of(funcs, deep-1)
	} else {
		c.named()
	}
	n := c.below(3)
	for range n {
		c.anything(deep - 1)
	}
	c.put("call", n)
}

// of: a value that is mostly of this kind.
func (c *coder) of(kind string, deep int) {
	switch kind {
	case ints:
		c.int(deep)
	case strs:
		c.str(deep)
	case lists:
		c.list(deep)
	case dicts:
		n := c.below(3)
		for range n {
			c.of([]string{ints, strs, ints, strs, lists}[c.below(5)], 0)
			c.anything(deep - 1)
		}
		c.put("dict", n)
	case funcs:
		c.closure()
	default:
		c.named()
	}
}

func (c *coder) int(deep int) {
	switch n := c.below(5); {
	case deep <= 0 || n == 0:
		c.put("int", c.below(len(c.Ints)))
	case n == 1:
		c.int(deep - 1)
		c.put("neg", 0)
	case n == 2:
		c.builtin(c.pick("len id pop"))
		c.of([]string{lists, dicts, strs, funcs}[c.below(4)], deep-1)
		c.put("call", 1)
	default:
		c.int(deep - 1)
		c.int(deep - 1)
		c.put(c.pick("add sub mul div mod"), 0)
	}
}

func (c *coder) str(deep int) {
	switch n := c.below(4); {
	case deep <= 0 || n == 0:
		c.put("str", c.below(len(c.Strs)))
	case n == 1:
		c.builtin("str")
		c.anything(deep - 1)
		c.put("call", 1)
	case n == 2:
		c.builtin("input")
		c.put("call", 0)
	default:
		c.str(deep - 1)
		c.str(deep - 1)
		c.put("add", 0)
	}
}

func (c *coder) list(deep int) {
	switch n := c.below(6); {
	case deep <= 0:
		c.put("list", 0)
	case n == 0:
		c.builtin("range")
		c.int(0)
		c.put("call", 1)
	case n == 1:
		c.builtin("keys")
		c.of(dicts, deep-1)
		c.put("call", 1)
	case n == 2:
		c.list(deep - 1)
		c.list(deep - 1)
		c.put("add", 0)
	case n == 3:
		c.list(deep - 1)
		c.put("dup", 0)
		c.put("name", 1)
		c.put("dup", 0)
		c.builtin("push")
		c.put("global", 1) // the same list, which may come to hold itself
		c.anything(deep - 1)
		c.put("call", 2)
		c.put("pop", 0)
		c.put("list", 2)
	default:
		k := c.below(4)
		for range k {
			c.anything(deep - 1)
		}
		c.put("list", k)
	}
}

// closure: a function, mostly not of the program itself, with some cells of the Func that is made.
func (c *coder) closure() {
	f := c.own()
	n := 0
	if !c.one(20) {
		n = 1 + c.below(len(c.Funcs)-1)
	}
	frees := c.Funcs[n].Frees
	if frees > 0 && f.Cells+f.Frees == 0 {
		c.named()
		return
	}
	c.put("closure", n)
	for range frees {
		c.put("take", c.below(f.Cells+f.Frees))
	}
}
