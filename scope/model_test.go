package scope_test

import (
	"math/rand"
	"slices"
	"strings"
	"testing"

	"nurserypy/api"
	"nurserypy/lex"
	"nurserypy/scope"
	"nurserypy/tree"
)

// An event: what a statement does with a name, in a scope: param, bind, use, global, nonlocal.
type event struct {
	at, in     int
	what, name string
}

// A model reads a program's scopes and events from its tokens, line by line, and asks the rules of P30 and P32 of all events, one by one.
type model struct {
	titles  []string
	around  []int
	events  []event
	begun   int
	blocks  []place
	next    place            // where the next block, if one follows, stands
	reasons map[int][]string // why statements are not right
}

type place struct {
	in     int
	looped bool
}

func newModel(t *testing.T, s string) *model {
	t.Helper()
	tokens, err := lex.Lex(s)
	if err != nil {
		t.Fatalf("%q: %v", s, err)
	}
	m := &model{titles: []string{""}, around: []int{-1}, blocks: []place{{}}, reasons: map[int][]string{}}
	var line []lex.Token
	for _, x := range tokens {
		switch x.Kind {
		case "indent":
			m.blocks = append(m.blocks, m.next)
		case "dedent":
			m.blocks = m.blocks[:len(m.blocks)-1]
		case "newline":
			m.line(line)
			line = nil
		default:
			line = append(line, x)
		}
	}
	m.ask()
	return m
}

func (m *model) refuse(at int, why string) {
	m.reasons[at] = append(m.reasons[at], why)
}

func (m *model) add(at, in int, what, name string) {
	m.events = append(m.events, event{at, in, what, name})
}

func (m *model) open(title string, around, at int, params []lex.Token) int {
	m.titles, m.around = append(m.titles, title), append(m.around, around)
	in := len(m.titles) - 1
	for _, x := range params {
		if x.Kind == "name" {
			m.add(at, in, "param", x.Text)
		}
	}
	return in
}

func (m *model) line(l []lex.Token) {
	here := m.blocks[len(m.blocks)-1]
	m.next = here
	at, in := m.begun, here.in
	if l[0].Kind != "word" {
		m.begun++
		if l[0].Kind == "name" && len(l) > 1 && l[1].Kind == "op" && l[1].Text == "=" {
			m.terms(l[2:], in, at)
			m.add(at, in, "bind", l[0].Text)
			return
		}
		m.terms(l, in, at)
		return
	}
	if l[0].Text == "else" {
		return
	}
	if l[0].Text == "except" {
		m.add(at-1, in, "bind", l[1].Text)
		return
	}
	m.begun++
	switch l[0].Text {
	case "def":
		m.add(at, in, "bind", l[1].Text)
		m.next = place{in: m.open(l[1].Text, in, at, l[2:])}
	case "for":
		m.terms(l[3:], in, at)
		m.add(at, in, "bind", l[1].Text)
		m.next.looped = true
	case "while":
		m.terms(l[1:], in, at)
		m.next.looped = true
	case "global", "nonlocal":
		for i := 1; i < len(l); i += 2 {
			m.add(at, in, l[0].Text, l[i].Text)
		}
		if in == 0 {
			m.refuse(at, "said in the program")
		}
	case "break", "continue":
		if !here.looped {
			m.refuse(at, "no loop")
		}
	case "return":
		if in == 0 {
			m.refuse(at, "return in the program")
		}
		m.terms(l[1:], in, at)
	default:
		m.terms(l, in, at)
	}
}

// terms reads what a line's terms use. A lambda ends at a comma, a colon or a closing bracket as deep as it began.
func (m *model) terms(l []lex.Token, in, at int) {
	type begun struct{ in, deep int }
	open := []begun{{in, -1}}
	deep := 0
	end := func() {
		for open[len(open)-1].deep == deep {
			open = open[:len(open)-1]
		}
	}
	for i := 0; i < len(l); i++ {
		x := l[i]
		now := open[len(open)-1].in
		switch {
		case x.Kind == "name":
			m.add(at, now, "use", x.Text)
		case x.Kind == "word" && x.Text == "lambda":
			from := i
			for l[i].Text != ":" {
				i++
			}
			open = append(open, begun{m.open("lambda", now, at, l[from:i]), deep})
		case x.Kind != "op":
		case strings.Contains("([{", x.Text):
			deep++
		case strings.Contains(")]}", x.Text):
			end()
			deep--
		case x.Text == "," || x.Text == ":":
			end()
		}
	}
}

func (m *model) any(asked func(event) bool) bool {
	return slices.ContainsFunc(m.events, asked)
}

func (m *model) says(in int, what, name string) bool {
	return m.any(func(e event) bool { return e.in == in && e.what == what && e.name == name })
}

func (m *model) belongs(in int, name string) bool {
	return (m.says(in, "bind", name) || m.says(in, "param", name)) && !m.says(in, "global", name) && !m.says(in, "nonlocal", name)
}

// ask asks P32 of all events.
func (m *model) ask() {
	for i, e := range m.events {
		ahead := func(what string) bool {
			return slices.ContainsFunc(m.events[:i], func(x event) bool {
				return x.in == e.in && x.name == e.name && x.what == what
			})
		}
		if e.what == "param" && ahead("param") {
			m.refuse(e.at, "a parameter twice")
		}
		if e.what != "global" && e.what != "nonlocal" {
			continue
		}
		for _, what := range []string{"param", "bind", "use", "global", "nonlocal"} {
			if ahead(what) {
				m.refuse(e.at, "ahead: "+what)
			}
		}
		if e.what == "nonlocal" && !m.belongsAround(e.in, e.name) {
			m.refuse(e.at, "nobody's")
		}
	}
}

func (m *model) belongsAround(in int, name string) bool {
	if in == 0 || m.around[in] == 0 {
		return false
	}
	return m.belongs(m.around[in], name) || m.belongsAround(m.around[in], name)
}

// first: the first statement that is not right, or -1.
func (m *model) first() int {
	for at := range m.begun {
		if len(m.reasons[at]) > 0 {
			return at
		}
	}
	return -1
}

// seen: whether a name of a def or a lambda, not a global one, is what a scope around hands to that one.
func (m *model) seen(in int, name string) bool {
	if in == 0 {
		return false
	}
	out := m.around[in]
	return out > 0 && !m.says(out, "global", name) && (m.belongs(out, name) || m.seen(out, name))
}

// needs: whether a scope, or one within, takes a name from around.
func (m *model) needs(in int, name string) bool {
	return !m.belongs(in, name) && !m.says(in, "global", name) && (m.any(func(e event) bool { return e.in == in && e.name == name }) || m.lends(in, name))
}

// lends: whether a scope within takes a name from that one.
func (m *model) lends(in int, name string) bool {
	for within, around := range m.around {
		if around == in && m.needs(within, name) {
			return true
		}
	}
	return false
}

// scopes, as P31 tells them.
func (m *model) scopes() []scope.Scope {
	var all []string
	for _, e := range m.events {
		all = append(all, e.name)
	}
	slices.Sort(all)
	all = slices.Compact(all)
	var out []scope.Scope
	for in, title := range m.titles {
		s := scope.Scope{Name: title, Around: m.around[in]}
		for i, e := range m.events {
			if e.in == in && e.what == "param" {
				s.Params++
			}
			again := slices.ContainsFunc(m.events[:i], func(x event) bool { return x.in == in && x.name == e.name && x.what != "use" })
			if in == 0 || e.in != in || e.what == "use" || again || !m.belongs(in, e.name) {
				continue
			}
			if m.lends(in, e.name) {
				s.Cells = append(s.Cells, e.name)
			} else {
				s.Locals = append(s.Locals, e.name)
			}
		}
		for _, name := range all {
			if m.seen(in, name) && m.needs(in, name) {
				s.Frees = append(s.Frees, name)
			}
		}
		out = append(out, s)
	}
	return out
}

// agree holds both calls against the model, and answers it.
func agree(t *testing.T, l []tree.Stmt) *model {
	t.Helper()
	s, err := tree.Text(l)
	if err != nil {
		t.Fatal(err)
	}
	m := newModel(t, s)
	if at := m.first(); at >= 0 {
		fails(t, s, at)
		return m
	}
	got, err := scope.Scopes(l)
	if want := tell(m.scopes()); err != nil || tell(got) != want || scope.Check(l) != nil {
		t.Errorf("%s%v, %v\n%swant\n%s", s, err, scope.Check(l), tell(got), want)
	}
	holds(t, s, got)
	return m
}

// P30 to P33: three defs in each other, each with one thing that it has to do with a name, ahead of the def in it or behind.
func TestThreeDefs(t *testing.T) {
	things := []string{
		"pass", "a", "a = 1", "global a", "nonlocal a", "global a|a = 1", "nonlocal a|a = 1", "a = a", "x = lambda: a", "x = lambda a: a",
		"a = 1|x = lambda: a", "x = lambda: a|global a", "for a in x:| pass", "try:| nonlocal a|except a:| pass", "def a():| return a", "a[0] = 1",
	}
	put := func(blanks, what string, behind bool, inner string) string {
		own := ""
		for _, x := range strings.Split(what, "|") {
			own += blanks + x + "\n"
		}
		if behind {
			return inner + own
		}
		return own + inner
	}
	rightOnes := 0
	for n := range 8 {
		for _, x := range things {
			for _, y := range things {
				for k, z := range things {
					param := []string{"", "a"}[k%2]
					s := put("   ", z, false, "")
					s = put("  ", y, n&1 > 0, "  def h("+[]string{"", param}[n>>2&1]+"):\n"+s)
					s = put(" ", x, n&2 > 0, " def g():\n"+s)
					if len(agree(t, read(t, "def f(b):\n"+s)).reasons) == 0 {
						rightOnes++
					}
				}
			}
		}
	}
	if rightOnes < 2000 {
		t.Errorf("just %d were right", rightOnes)
	}
}

// A maker makes programs up, with few names.
type maker struct{ *rand.Rand }

func (m maker) pick(words string) string {
	l := strings.Fields(words)
	return l[m.Intn(len(l))]
}

func (m maker) name() string { return m.pick("a b c d") }

// names that mostly are not there twice.
func (m maker) names(n int) []string {
	l := strings.Fields("a b c d")
	m.Shuffle(len(l), func(i, j int) { l[i], l[j] = l[j], l[i] })
	l = l[:n]
	if n > 1 && m.Intn(25) == 0 {
		l[n-1] = l[0]
	}
	return l
}

func (m maker) terms(n, deep int) []tree.Expr {
	var l []tree.Expr
	for range n {
		l = append(l, m.term(deep))
	}
	return l
}

func (m maker) term(deep int) tree.Expr {
	kind := m.Intn(10)
	if deep == 0 {
		kind = m.Intn(3)
	}
	switch kind {
	case 0, 1:
		return tree.Expr{Op: "name", S: m.name()}
	case 2:
		return tree.Expr{Op: "int", N: 1}
	case 3, 4, 5:
		return tree.Expr{Op: "lambda", P: m.names(m.Intn(3)), L: m.terms(1, deep-1)}
	case 6:
		return tree.Expr{Op: "dict", L: m.terms(2*m.Intn(3), deep-1)}
	case 7:
		return tree.Expr{Op: m.pick("call list"), L: m.terms(1+m.Intn(3), deep-1)}
	case 8:
		return tree.Expr{Op: m.pick("neg not"), L: m.terms(1, deep-1)}
	}
	return tree.Expr{Op: m.pick("+ index and < or"), L: m.terms(2, deep-1)}
}

func (m maker) block(deep int, looped, within bool) []tree.Stmt {
	var l []tree.Stmt
	for range 1 + m.Intn(3) {
		l = append(l, m.stmt(deep, looped, within))
	}
	return l
}

func (m maker) stmt(deep int, looped, within bool) tree.Stmt {
	kinds := "expr expr set set set put del raise pass"
	if deep > 0 {
		kinds += " if while for def def def def try"
	}
	if looped || m.Intn(60) == 0 {
		kinds += " break continue"
	}
	if within || m.Intn(60) == 0 {
		kinds += " return return"
	}
	if m.Intn(25) == 0 {
		kinds = "global nonlocal"
	}
	s := tree.Stmt{Kind: m.pick(kinds)}
	switch s.Kind {
	case "expr", "raise", "return", "while", "if", "set", "for":
		s.L = m.terms(1, 2)
	case "put":
		s.L = m.terms(3, 2)
	case "del":
		s.L = m.terms(2, 2)
	case "global", "nonlocal":
		s.P = m.names(1)
	}
	switch s.Kind {
	case "set", "for", "def", "try":
		s.Name = m.name()
	}
	switch s.Kind {
	case "if":
		s.Body, s.Else = m.block(deep-1, looped, within), m.block(deep-1, looped, within)[m.Intn(2):]
	case "while", "for":
		s.Body = m.block(deep-1, true, within)
	case "try":
		s.Body, s.Else = m.block(deep-1, looped, within), m.block(deep-1, looped, within)
	case "def":
		s.P, s.Body = m.names(m.Intn(3)), m.block(deep-1, false, true)
		if m.Intn(3) == 0 {
			s.Body = append([]tree.Stmt{{Kind: m.pick("global nonlocal nonlocal"), P: m.names(1 + m.Intn(2))}}, s.Body...)
		}
	}
	return s
}

// P30 to P33: made-up programs; enough of them are right, and enough not, for each reason.
func TestMadeUp(t *testing.T) {
	m := maker{rand.New(rand.NewSource(4))}
	seen := map[string]int{}
	for range 20000 {
		l := m.block(4, false, false)
		if s, err := tree.Text(l); err != nil || len(s) > 900 {
			continue
		}
		found := agree(t, l)
		at := found.first()
		if at >= 0 {
			for _, why := range found.reasons[at] {
				seen[why]++
			}
			continue
		}
		seen["right"]++
		for _, s := range found.scopes() {
			seen["cells"] += len(s.Cells)
			seen["frees"] += len(s.Frees)
			for _, name := range s.Frees {
				if s.Around > 0 && slices.Contains(found.scopes()[s.Around].Frees, name) {
					seen["between"]++
				}
			}
		}
	}
	for _, what := range []string{"right", "cells", "frees", "between", "said in the program", "no loop", "return in the program", "a parameter twice", "ahead: param", "ahead: bind", "ahead: use", "ahead: global", "ahead: nonlocal", "nobody's"} {
		if seen[what] < 50 {
			t.Errorf("%s: just %d of them", what, seen[what])
		}
	}
}

// P1, P3: trees with a piece that is none: tree.Text's error, or what else holds.
func TestDamaged(t *testing.T) {
	m := maker{rand.New(rand.NewSource(5))}
	shapes := 0
	for range 5000 {
		l := m.block(2, false, false)
		s := &l[m.Intn(len(l))]
		for len(s.Body) > 0 && m.Intn(2) == 0 {
			s = &s.Body[m.Intn(len(s.Body))]
		}
		switch m.Intn(6) {
		case 0:
			s.Kind = m.pick("expr set put del if while for def return raise try break continue pass global nonlocal x")
		case 1:
			s.Name = []string{"", "a", "if", "A"}[m.Intn(4)]
		case 2:
			s.P = append(s.P, []string{"a", "", "in"}[m.Intn(3)])
		case 3:
			s.L = m.terms(m.Intn(4), 1)
		case 4:
			s.Body = nil
		default:
			s.L = append(s.L, tree.Expr{Op: m.pick("name lambda index x"), P: []string{"a", "a"}})
		}
		if _, err := tree.Text(l); err == nil {
			agree(t, l)
			continue
		}
		shapes++
		if got, err := scope.Scopes(l); err != api.ErrShape || len(got) != 0 || scope.Check(l) != api.ErrShape {
			t.Errorf("%v: %v, %v", l, got, err)
		}
	}
	if shapes < 500 {
		t.Errorf("just %d had no text", shapes)
	}
}
