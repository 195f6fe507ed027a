package walk_test

import (
	"fmt"
	"math/big"
	"slices"
	"strconv"
	"strings"
	"testing"

	"nurserypy/api"
	"nurserypy/checks/made"
	"nurserypy/tree"
	"nurserypy/walk"
)

// A thing is a value of the model: kind tells which of its fields count.
type thing struct {
	kind string // none, bool, int, str, list, dict, func, builtin
	n    *big.Int
	s    string // of a str; the name of a func or builtin
	l    *[]thing
	d    *[][2]thing
	def  *tree.Stmt // of a def
	lam  *tree.Expr // of a lambda
	home *world     // where it was made
	self *int       // what makes it itself
}

// A world is where names live: each call has its own, within that of where its function was made; the outermost one is the program's.
type world struct {
	around     *world
	own        map[string]*thing // those that belong to it; nil: without a value
	saysGlobal map[string]bool
	outermost  *world
	// Of the outermost one alone:
	globals       map[string]thing
	steps, fuel   int
	open, serials int
	input         []string
	output        string
	numbers       map[*tree.Stmt]int
	starts        []walk.Start
}

// An end is why something is not worked out to the end: a value that is raised, or that the run is tired; or a break, continue, return.
type end struct {
	why   string
	value thing
}

func text(s string) thing { return thing{kind: "str", s: s} }

func number(n int64) thing { return thing{kind: "int", n: big.NewInt(n)} }

func truth(b bool) thing { return thing{kind: "bool", s: strconv.FormatBool(b)} }

func wrong(name string) *end { return &end{why: "raise", value: text(name + "Error")} }

// bound: the names that statements bind, those of defs and lambdas in them aside.
func bound(l []tree.Stmt, found, said map[string]bool, globals map[string]bool) {
	for _, s := range l {
		switch s.Kind {
		case "set", "for", "def", "try":
			found[s.Name] = true
		case "global", "nonlocal":
			for _, p := range s.P {
				said[p] = true
				if s.Kind == "global" {
					globals[p] = true
				}
			}
		}
		if s.Kind != "def" {
			bound(s.Body, found, said, globals)
			bound(s.Else, found, said, globals)
		}
	}
}

// within: a new world for a call.
func (w *world) within(params []string, body []tree.Stmt, args []thing) *world {
	found, said := map[string]bool{}, map[string]bool{}
	in := &world{around: w, own: map[string]*thing{}, saysGlobal: map[string]bool{}, outermost: w.outermost}
	bound(body, found, said, in.saysGlobal)
	for name := range found {
		if !said[name] {
			in.own[name] = nil
		}
	}
	for i, p := range params {
		in.own[p] = &args[i]
	}
	return in
}

// where: the world in which a name is: nil if it is global.
func (w *world) where(name string) *world {
	if w.around == nil || w.saysGlobal[name] {
		return nil
	}
	if _, ok := w.own[name]; ok {
		return w
	}
	return w.around.where(name)
}

func (w *world) get(name string) (thing, *end) {
	if in := w.where(name); in != nil {
		if in.own[name] == nil {
			return thing{}, wrong("Name")
		}
		return *in.own[name], nil
	}
	v, ok := w.outermost.globals[name]
	if !ok {
		return thing{}, wrong("Name")
	}
	return v, nil
}

func (w *world) set(name string, v thing) {
	if in := w.where(name); in != nil {
		in.own[name] = &v
		return
	}
	w.outermost.globals[name] = v
}

func (w *world) step() *end {
	o := w.outermost
	if o.steps >= o.fuel {
		return &end{why: "tired"}
	}
	o.steps++
	return nil
}

func (w *world) block(l []tree.Stmt) *end {
	for i := range l {
		if e := w.stmt(&l[i]); e != nil {
			return e
		}
	}
	return nil
}

func (w *world) stmt(s *tree.Stmt) *end {
	if e := w.step(); e != nil {
		return e
	}
	o := w.outermost
	o.starts = append(o.starts, walk.Start{Step: o.steps, Stmt: o.numbers[s], Deep: o.open})
	switch s.Kind {
	case "while":
		for {
			if e := w.step(); e != nil {
				return e
			}
			v, e := w.expr(&s.L[0])
			if e != nil || !isTrue(v) {
				return e
			}
			if e := w.block(s.Body); e != nil && e.why == "break" {
				return nil
			} else if e != nil && e.why != "continue" {
				return e
			}
		}
	case "try":
		e := w.block(s.Body)
		if e == nil || e.why != "raise" {
			return e
		}
		w.set(s.Name, e.value)
		return w.block(s.Else)
	case "def":
		w.set(s.Name, thing{kind: "func", s: s.Name, def: s, home: w, self: new(int)})
		return nil
	case "break", "continue":
		return &end{why: s.Kind}
	}
	var parts []thing
	for i := range s.L {
		v, e := w.expr(&s.L[i])
		if e != nil {
			return e
		}
		parts = append(parts, v)
	}
	return w.act(s, parts)
}

// act: a statement whose terms are worked out.
func (w *world) act(s *tree.Stmt, parts []thing) *end {
	switch s.Kind {
	case "set":
		w.set(s.Name, parts[0])
	case "if":
		if isTrue(parts[0]) {
			return w.block(s.Body)
		}
		return w.block(s.Else)
	case "raise":
		return &end{why: "raise", value: parts[0]}
	case "return":
		if len(parts) == 0 {
			return &end{why: "return", value: thing{kind: "none"}}
		}
		return &end{why: "return", value: parts[0]}
	case "put", "del":
		return change(s.Kind, parts)
	case "for":
		return w.loop(s, parts[0])
	}
	return nil
}

func (w *world) loop(s *tree.Stmt, over thing) *end {
	var l []thing
	items := &l
	switch over.kind {
	case "list":
		items = over.l
	case "str":
		for i := 0; i < len(over.s); i++ {
			l = append(l, text(over.s[i:i+1]))
		}
	case "dict":
		for _, pair := range *over.d {
			l = append(l, pair[0])
		}
	default:
		return wrong("Type")
	}
	for i := 0; i < len(*items); i++ {
		if e := w.step(); e != nil {
			return e
		}
		w.set(s.Name, (*items)[i])
		if e := w.block(s.Body); e != nil && e.why == "break" {
			return nil
		} else if e != nil && e.why != "continue" {
			return e
		}
	}
	return nil
}

// find: where in a list, str or dict something is.
func find(in, at thing) (int, *end) {
	switch in.kind {
	case "dict":
		if at.kind == "list" || at.kind == "dict" || at.kind == "func" || at.kind == "builtin" {
			return 0, wrong("Type")
		}
		for i, pair := range *in.d {
			if same, _ := equal(pair[0], at, 1); same {
				return i, nil
			}
		}
		return -1, wrong("Key")
	case "list", "str":
		if at.kind != "int" {
			return 0, wrong("Type")
		}
		size := len(in.s)
		if in.kind == "list" {
			size = len(*in.l)
		}
		i := new(big.Int).Set(at.n)
		if i.Sign() < 0 {
			i.Add(i, big.NewInt(int64(size)))
		}
		if i.Sign() < 0 || i.Cmp(big.NewInt(int64(size))) >= 0 {
			return 0, wrong("Index")
		}
		return int(i.Int64()), nil
	}
	return 0, wrong("Type")
}

func change(what string, parts []thing) *end {
	in := parts[0]
	if in.kind == "str" {
		return wrong("Type")
	}
	at, e := find(in, parts[1])
	if what == "put" && in.kind == "dict" && at == -1 {
		if len(*in.d) == api.MaxLength {
			return wrong("Overflow")
		}
		*in.d = append(*in.d, [2]thing{parts[1], parts[2]})
		return nil
	}
	switch {
	case e != nil:
		return e
	case what == "put" && in.kind == "dict":
		(*in.d)[at][1] = parts[2]
	case what == "put":
		(*in.l)[at] = parts[2]
	case in.kind == "dict":
		*in.d = append(append([][2]thing{}, (*in.d)[:at]...), (*in.d)[at+1:]...)
	default:
		*in.l = append(append([]thing{}, (*in.l)[:at]...), (*in.l)[at+1:]...)
	}
	return nil
}

func isTrue(v thing) bool {
	switch v.kind {
	case "none":
		return false
	case "bool":
		return v.s == "true"
	case "int":
		return v.n.Sign() != 0
	case "str":
		return len(v.s) > 0
	case "list":
		return len(*v.l) > 0
	case "dict":
		return len(*v.d) > 0
	}
	return true
}

func (w *world) expr(x *tree.Expr) (thing, *end) {
	switch x.Op {
	case "int":
		return number(x.N), nil
	case "str":
		if len(x.S) > api.MaxLength {
			return thing{}, wrong("Overflow")
		}
		return text(x.S), nil
	case "None":
		return thing{kind: "none"}, nil
	case "True":
		return truth(true), nil
	case "False":
		return truth(false), nil
	case "name":
		return w.get(x.S)
	case "lambda":
		return thing{kind: "func", s: "lambda", lam: x, home: w, self: new(int)}, nil
	case "and", "or":
		v, e := w.expr(&x.L[0])
		if e != nil || isTrue(v) != (x.Op == "and") {
			return v, e
		}
		return w.expr(&x.L[1])
	}
	parts := []thing{}
	for i := range x.L {
		v, e := w.expr(&x.L[i])
		if e != nil {
			return v, e
		}
		parts = append(parts, v)
	}
	switch x.Op {
	case "call":
		return w.call(parts[0], parts[1:])
	case "list":
		return thing{kind: "list", l: &parts, self: new(int)}, nil
	case "dict":
		d := thing{kind: "dict", d: &[][2]thing{}, self: new(int)}
		for i := 0; i < len(parts); i += 2 {
			if e := change("put", []thing{d, parts[i], parts[i+1]}); e != nil {
				return d, e
			}
		}
		return d, nil
	case "index":
		at, e := find(parts[0], parts[1])
		switch {
		case e != nil:
			return thing{}, e
		case parts[0].kind == "str":
			return text(parts[0].s[at : at+1]), nil
		case parts[0].kind == "list":
			return (*parts[0].l)[at], nil
		}
		return (*parts[0].d)[at][1], nil
	case "not":
		return truth(!isTrue(parts[0])), nil
	case "neg":
		return arithmetic("-", number(0), parts[0])
	}
	return operator(x.Op, parts[0], parts[1])
}

func operator(op string, a, b thing) (thing, *end) {
	switch op {
	case "==", "!=":
		same, e := equal(a, b, 1)
		return truth(same == (op == "==")), e
	case "is":
		if a.self != nil || b.self != nil {
			return truth(a.self == b.self), nil
		}
		same, e := equal(a, b, 1)
		return truth(same), e
	case "in":
		switch {
		case b.kind == "list":
			for _, item := range *b.l {
				if same, e := equal(item, a, 1); same || e != nil {
					return truth(true), e
				}
			}
			return truth(false), nil
		case b.kind == "dict":
			at, e := find(b, a)
			if at == -1 {
				return truth(false), nil
			}
			return truth(true), e
		case b.kind == "str" && a.kind == "str":
			return truth(strings.Contains(b.s, a.s)), nil
		}
		return thing{}, wrong("Type")
	case "<", "<=", ">", ">=":
		by := 0
		switch {
		case a.kind == "int" && b.kind == "int":
			by = a.n.Cmp(b.n)
		case a.kind == "str" && b.kind == "str":
			by = strings.Compare(a.s, b.s)
		default:
			return thing{}, wrong("Type")
		}
		return truth(by == 0 && len(op) == 2 || by < 0 && op[0] == '<' || by > 0 && op[0] == '>'), nil
	}
	return arithmetic(op, a, b)
}

func arithmetic(op string, a, b thing) (thing, *end) {
	if op == "+" && a.kind == "str" && b.kind == "str" {
		if len(a.s+b.s) > api.MaxLength {
			return thing{}, wrong("Overflow")
		}
		return text(a.s + b.s), nil
	}
	if op == "+" && a.kind == "list" && b.kind == "list" {
		l := append(append([]thing{}, *a.l...), *b.l...)
		if len(l) > api.MaxLength {
			return thing{}, wrong("Overflow")
		}
		return thing{kind: "list", l: &l, self: new(int)}, nil
	}
	if a.kind != "int" || b.kind != "int" {
		return thing{}, wrong("Type")
	}
	if (op == "//" || op == "%") && b.n.Sign() == 0 {
		return thing{}, wrong("ZeroDivision")
	}
	n := new(big.Int)
	switch op {
	case "+":
		n.Add(a.n, b.n)
	case "-":
		n.Sub(a.n, b.n)
	case "*":
		n.Mul(a.n, b.n)
	default:
		rest := new(big.Int)
		n.QuoRem(a.n, b.n, rest)
		if rest.Sign()*b.n.Sign() < 0 {
			n.Sub(n, big.NewInt(1))
		}
		if op == "%" {
			n = rest.Sub(a.n, new(big.Int).Mul(n, b.n))
		}
	}
	if !n.IsInt64() {
		return thing{}, wrong("Overflow")
	}
	return thing{kind: "int", n: n}, nil
}

func equal(a, b thing, deep int) (bool, *end) {
	if a.kind != b.kind {
		return false, nil
	}
	switch a.kind {
	case "int":
		return a.n.Cmp(b.n) == 0, nil
	case "func":
		return a.self == b.self, nil
	case "list", "dict":
		if deep > api.MaxNest {
			return false, wrong("Recursion")
		}
	default:
		return a.s == b.s, nil
	}
	if a.kind == "list" {
		for i := range *a.l {
			if len(*a.l) != len(*b.l) {
				return false, nil
			}
			if same, e := equal((*a.l)[i], (*b.l)[i], deep+1); !same {
				return false, e
			}
		}
		return len(*a.l) == len(*b.l), nil
	}
	if len(*a.d) != len(*b.d) {
		return false, nil
	}
	for _, pair := range *a.d {
		at, _ := find(b, pair[0])
		if at < 0 {
			return false, nil
		}
		if same, e := equal(pair[1], (*b.d)[at][1], deep+1); !same {
			return false, e
		}
	}
	return true, nil
}

// repr, by parts: those of a list or dict are written one behind the other.
func repr(v thing, deep int) (string, *end) {
	s := ""
	switch v.kind {
	case "none":
		s = "None"
	case "bool":
		s = strings.ToUpper(v.s[:1]) + v.s[1:]
	case "int":
		s = v.n.String()
	case "str":
		for i := 0; i < len(v.s); i++ {
			if c := v.s[i]; c == '"' || c == '\\' {
				s += "\\" + string(rune(c))
			} else if c == '\n' {
				s += "\\n"
			} else if c < 32 || c > 126 {
				s += fmt.Sprintf("\\x%02x", c)
			} else {
				s += string(rune(c))
			}
		}
		s = `"` + s + `"`
	case "func":
		s = "<function " + v.s + ">"
	case "builtin":
		s = "<builtin " + v.s + ">"
	case "list", "dict":
		if deep > api.MaxNest {
			return "", wrong("Recursion")
		}
		var parts [][]thing
		brackets := "{}"
		if v.kind == "list" {
			brackets = "[]"
			for _, item := range *v.l {
				parts = append(parts, []thing{item})
			}
		} else {
			for _, pair := range *v.d {
				parts = append(parts, pair[:])
			}
		}
		for i, part := range parts {
			for j, one := range part {
				told, e := repr(one, deep+1)
				if e != nil {
					return "", e
				}
				if j == 1 {
					s += ": "
				} else if i > 0 {
					s += ", "
				}
				s += told
			}
			if len(s) > api.MaxLength {
				return "", wrong("Overflow")
			}
		}
		s = brackets[:1] + s + brackets[1:]
	}
	if len(s) > api.MaxLength {
		return "", wrong("Overflow")
	}
	return s, nil
}

func str(v thing) (string, *end) {
	if v.kind == "str" {
		return v.s, nil
	}
	return repr(v, 1)
}

func (w *world) call(f thing, args []thing) (thing, *end) {
	switch f.kind {
	case "builtin":
		return w.builtin(f.s, args)
	case "func":
	default:
		return thing{}, wrong("Type")
	}
	var in *world
	var body []tree.Stmt
	params := 0
	if f.def != nil {
		params, body = len(f.def.P), f.def.Body
	} else {
		params = len(f.lam.P)
	}
	if params != len(args) {
		return thing{}, wrong("Type")
	}
	if w.outermost.open+1 > api.MaxCalls {
		return thing{}, wrong("Recursion")
	}
	if e := w.step(); e != nil {
		return thing{}, e
	}
	w.outermost.open++
	defer func() { w.outermost.open-- }()
	if f.lam != nil {
		in = f.home.within(f.lam.P, nil, args)
		return in.expr(&f.lam.L[0])
	}
	in = f.home.within(f.def.P, body, args)
	e := in.block(body)
	if e != nil && e.why == "return" {
		return e.value, nil
	}
	return thing{kind: "none"}, e
}

func (w *world) builtin(name string, args []thing) (thing, *end) {
	kinds := ""
	for _, a := range args {
		kinds += a.kind + " "
	}
	o := w.outermost
	fitting := map[string]string{
		"len": "str |list |dict ", "push": "list ", "pop": "list ", "keys": "dict ", "id": "list |dict |func ", "range": "int ", "collect": "int ",
	}
	if name == "print" || name == "str" {
		out := ""
		if name == "str" && len(args) != 1 {
			return thing{}, wrong("Type")
		}
		for i, a := range args {
			s, e := str(a)
			if e != nil {
				return thing{}, e
			}
			if i > 0 {
				out += " "
			}
			out += s
		}
		if name == "str" {
			return text(out), nil
		}
		if len(o.output+out) >= api.MaxOutput {
			return thing{}, wrong("Overflow")
		}
		o.output += out + "\n"
		return thing{kind: "none"}, nil
	}
	if name == "input" {
		if len(args) > 0 {
			return thing{}, wrong("Type")
		}
		if len(o.input) == 0 {
			return thing{}, wrong("Value")
		}
		defer func() { o.input = o.input[1:] }()
		return text(o.input[0]), nil
	}
	if name == "push" {
		if len(args) != 2 {
			return thing{}, wrong("Type")
		}
		kinds = args[0].kind + " "
	}
	if !strings.Contains("|"+fitting[name]+"|", "|"+kinds+"|") || kinds == "" {
		return thing{}, wrong("Type")
	}
	return w.worked(name, args)
}

// worked: a builtin whose arguments are as they must be.
func (w *world) worked(name string, args []thing) (thing, *end) {
	a, o := args[0], w.outermost
	switch name {
	case "len":
		n := len(a.s)
		if a.l != nil {
			n = len(*a.l)
		}
		if a.d != nil {
			n = len(*a.d)
		}
		return number(int64(n)), nil
	case "push":
		if len(*a.l) >= api.MaxLength {
			return thing{}, wrong("Overflow")
		}
		*a.l = append(append([]thing{}, *a.l...), args[1])
	case "pop":
		if len(*a.l) == 0 {
			return thing{}, wrong("Index")
		}
		v := (*a.l)[len(*a.l)-1]
		*a.l = (*a.l)[:len(*a.l)-1]
		return v, nil
	case "keys":
		l := []thing{}
		for _, pair := range *a.d {
			l = append(l, pair[0])
		}
		return thing{kind: "list", l: &l, self: new(int)}, nil
	case "id":
		if *a.self == 0 {
			o.serials++
			*a.self = o.serials
		}
		return number(int64(*a.self)), nil
	case "range":
		if a.n.Cmp(big.NewInt(api.MaxLength)) > 0 {
			return thing{}, wrong("Overflow")
		}
		l := []thing{}
		for i := int64(0); i < a.n.Int64(); i++ {
			l = append(l, number(i))
		}
		return thing{kind: "list", l: &l, self: new(int)}, nil
	case "collect":
		if s := a.n.String(); s != "0" && s != "1" {
			return thing{}, wrong("Value")
		}
	}
	return thing{kind: "none"}, nil
}

// number gives statements their numbers, in the order of the text.
func (w *world) number(l []tree.Stmt) {
	for i := range l {
		w.numbers[&l[i]] = len(w.numbers)
		w.number(l[i].Body)
		w.number(l[i].Else)
	}
}

// modelled: what the model tells of a run, and of its statements.
func modelled(l []tree.Stmt, input []string, fuel int) (api.Outcome, []walk.Start) {
	w := &world{globals: map[string]thing{}, input: input, fuel: fuel, numbers: map[*tree.Stmt]int{}}
	w.outermost = w
	w.number(l)
	for _, name := range strings.Fields("len str push pop keys id range input print collect") {
		w.globals[name] = thing{kind: "builtin", s: name}
	}
	e := w.block(l)
	o := api.Outcome{Kind: "done", Output: w.output, Steps: w.steps}
	if e != nil && e.why == "tired" {
		o.Kind = "tired"
	} else if e != nil {
		o.Kind = "raised"
		told, other := repr(e.value, 1)
		if other != nil {
			told, _ = repr(other.value, 1)
		}
		o.Value = told
	}
	return o, w.starts
}

const errorNames = "NameError TypeError IndexError KeyError ValueError ZeroDivisionError OverflowError RecursionError"

// P40 to P46: made-up programs do what a second walker does, whose values, names and ends are other ones. P47: with other fuel, and again.
func TestMadeUp(t *testing.T) {
	input := []string{"one", "", "a b", "\xff\"\n"}
	kinds, deepest := map[string]int{}, 0
	for seed := range 1000 {
		l := made.Program(seed)
		const fuel = 2000
		want, begun := modelled(l, input, fuel)
		got, err := walk.Run(l, input, fuel)
		if err != nil || got != want {
			s, _ := tree.Text(l)
			t.Fatalf("%d:\n%s%v, %v, want %v", seed, s, got, err, want)
		}
		if starts, again, err := walk.Starts(l, input, fuel); err != nil || again != want || !slices.Equal(starts, begun) {
			s, _ := tree.Text(l)
			t.Fatalf("%d:\n%s%v, %v, %v, want %v", seed, s, starts, again, err, begun)
		}
		deepest = max(deepest, deep(begun))
		kinds[got.Kind]++
		for _, name := range strings.Fields(errorNames) {
			if strings.Contains(got.Value+got.Output, name) {
				kinds[name]++
			}
		}
		if seed%3 == 0 {
			otherFuel(t, l, input, got)
		}
	}
	for _, k := range strings.Fields("done raised tired " + errorNames) {
		if kinds[k] < 5 {
			t.Errorf("just %d were %s", kinds[k], k)
		}
	}
	if deepest != api.MaxCalls {
		t.Errorf("no more than %d calls were open", deepest)
	}
}

// deep: how many calls were open at most where a statement began.
func deep(l []walk.Start) int {
	most := 0
	for _, s := range l {
		most = max(most, s.Deep)
	}
	return most
}

// otherFuel: P47.
func otherFuel(t *testing.T, l []tree.Stmt, input []string, o api.Outcome) {
	t.Helper()
	more := api.MaxFuel
	if o.Kind == "tired" {
		more = o.Steps
	}
	for _, fuel := range []int{o.Steps, more} {
		if again, _ := walk.Run(l, input, fuel); again != o {
			t.Errorf("%v, and with fuel %d %v", o, fuel, again)
		}
	}
	for less := 1; less <= o.Steps; less *= 6 {
		got, _ := walk.Run(l, input, o.Steps-less)
		if got.Kind != "tired" || got.Steps != o.Steps-less || got.Value != "" || !strings.HasPrefix(o.Output, got.Output) {
			t.Errorf("%v, and with %d less %v", o, less, got)
		}
	}
}
