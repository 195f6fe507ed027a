package tree_test

import (
	"errors"
	"math/rand"
	"slices"
	"strings"
	"testing"

	"nurserypy/api"
	"nurserypy/lex"
	"nurserypy/tree"
)

// P22, as rules: what is written in capitals stands for one of its ways, `never` for a token that there is not. (Behind `del` any term is read, but just an index goes on.)
const rules = `
PROGRAM = STMTS end
STMTS = | STMTS STMT
STMT = LINE newline | if TERM : BLOCK ELSE | while TERM : BLOCK | for name in TERM : BLOCK | def name ( NONES ) : BLOCK | try : BLOCK except name : BLOCK
ELSE = | elif TERM : BLOCK ELSE | else : BLOCK
BLOCK = newline indent STMT STMTS dedent
LINE = name = TERM | INDEX = TERM | del INDEX | del TERM never | TERM | return | return TERM | raise TERM | break | continue | pass | global NAMES | nonlocal NAMES
NAMES = name | NAMES , name
NONES = | NAMES
INDEX = POST [ TERM ] | ( INDEX )
TERM = lambda NONES : TERM | OR
OR = AND | OR or AND
AND = NOT | AND and NOT
NOT = not NOT | COMPARISON
COMPARISON = SUM | SUM SIGN SUM
SIGN = == | != | < | <= | > | >= | is | in
SUM = PRODUCT | SUM + PRODUCT | SUM - PRODUCT
PRODUCT = FACTOR | PRODUCT * FACTOR | PRODUCT // FACTOR | PRODUCT % FACTOR
FACTOR = - FACTOR | POST
POST = ATOM | POST ( MANY ) | POST [ TERM ]
ATOM = int | str | None | True | False | name | ( TERM ) | [ MANY ] | { PAIRS }
TERMS = TERM | TERMS , TERM
MANY = | TERMS
PAIR = TERM : TERM
PAIRED = PAIR | PAIRED , PAIR
PAIRS = | PAIRED
`

// An item: a way of a rule, how much of it was passed, and at which token it began.
type item struct{ way, passed, from int }

// A grammar finds the first token that cannot stand where it is, by all readings at once.
type grammar struct {
	heads []string
	ways  [][]string
	of    map[string][]int
	empty map[string]bool
}

func newGrammar() *grammar {
	g := &grammar{of: map[string][]int{}, empty: map[string]bool{}}
	for _, line := range strings.Split(strings.TrimSpace(rules), "\n") {
		head, ways, _ := strings.Cut(line, " =")
		for _, w := range strings.Split(ways+" ", "| ") {
			parts := strings.Fields(w)
			g.of[head] = append(g.of[head], len(g.ways))
			g.heads = append(g.heads, head)
			g.ways = append(g.ways, parts)
			g.empty[head] = g.empty[head] || len(parts) == 0
		}
	}
	return g
}

// bad: the number of the first token that cannot stand there, or -1.
func (g *grammar) bad(tokens []string) int {
	var sets [][]item
	seen := map[item]bool{}
	add := func(n int, i item) {
		if !seen[i] {
			seen[i] = true
			sets[n] = append(sets[n], i)
		}
	}
	sets = append(sets, nil)
	for _, w := range g.of["PROGRAM"] {
		add(0, item{w, 0, 0})
	}
	for n := 0; n < len(sets); n++ {
		for k := 0; k < len(sets[n]); k++ {
			i := sets[n][k]
			if i.passed == len(g.ways[i.way]) {
				for _, j := range sets[i.from] {
					if j.passed < len(g.ways[j.way]) && g.ways[j.way][j.passed] == g.heads[i.way] {
						add(n, item{j.way, j.passed + 1, j.from})
					}
				}
				continue
			}
			part := g.ways[i.way][i.passed]
			for _, w := range g.of[part] {
				add(n, item{w, 0, n})
			}
			if g.empty[part] {
				add(n, item{i.way, i.passed + 1, i.from})
			}
		}
		if n == len(tokens) {
			return -1
		}
		sets = append(sets, nil)
		seen = map[item]bool{}
		for _, i := range sets[n] {
			if i.passed < len(g.ways[i.way]) && g.ways[i.way][i.passed] == tokens[n] {
				add(n+1, item{i.way, i.passed + 1, i.from})
			}
		}
		if len(sets[n+1]) == 0 {
			return n
		}
	}
	return -1
}

// spelt: tokens as the rules name them.
func spelt(l []lex.Token) []string {
	var out []string
	for _, t := range l {
		if t.Kind == "op" || t.Kind == "word" {
			out = append(out, t.Text)
		} else {
			out = append(out, t.Kind)
		}
	}
	return out
}

// agree holds Read against the rules. What is too deep is none of theirs.
func agree(t *testing.T, g *grammar, s string) {
	t.Helper()
	tokens, err := lex.Lex(s)
	if err != nil {
		t.Fatalf("%q: %v", s, err)
	}
	bad := g.bad(spelt(tokens))
	l, err := tree.Read(s)
	var f *api.Fault
	switch {
	case errors.Is(err, api.ErrBound):
	case bad < 0 && err != nil, bad >= 0 && (!errors.As(err, &f) || f.Err != api.ErrText || f.At != tokens[bad].At):
		t.Errorf("%q: %s, %#v; want token %d", s, tell(l), err, bad)
	}
}

// P22, P23: all programs of few tokens, and a line in a block.
func TestShortPrograms(t *testing.T) {
	g := newGrammar()
	words := strings.Fields("a 1 None = == + - in and not lambda ( ) [ ] { } , : . del return pass global if")
	for _, x := range words {
		agree(t, g, x)
		for _, y := range words {
			agree(t, g, x+" "+y)
			agree(t, g, "if a:\n "+x+"\n"+y)
			for _, z := range words {
				agree(t, g, x+" "+y+" "+z)
			}
		}
	}
	heads := []string{"if a:", "elif a:", "else:", "while a:", "for a in b:", "def f(a, b):", "try:", "except a:", "a", "pass", "return"}
	for _, x := range heads {
		for _, y := range heads {
			for _, z := range heads {
				agree(t, g, x+"\n "+y+"\n"+z+"\n b\n")
				agree(t, g, x+"\n "+y+"\n  "+z+"\n"+x)
				agree(t, g, x+"\n a\n"+y+"\n b\n"+z+"\n c\n")
			}
		}
	}
}

// A maker makes trees up.
type maker struct{ *rand.Rand }

func (m maker) pick(words string) string {
	l := strings.Fields(words)
	return l[m.Intn(len(l))]
}

func (m maker) names(least int) []string {
	var l []string
	for range least + m.Intn(3) {
		l = append(l, m.pick("a b c x1 _"))
	}
	return l
}

func (m maker) terms(n, deep int) []tree.Expr {
	var l []tree.Expr
	for range n {
		l = append(l, m.term(deep))
	}
	return l
}

func (m maker) term(deep int) tree.Expr {
	kind := m.Intn(12)
	if deep == 0 {
		kind = m.Intn(4)
	}
	switch kind {
	case 0:
		return num(m.Int63() >> m.Intn(63))
	case 1:
		return str(m.pick(`a b"c d\ None`) + string([]byte{byte(m.Intn(256))}))
	case 2:
		return plain(m.pick("None True False"))
	case 3:
		return name(m.pick("a b c x1 _"))
	case 4:
		return term(m.pick("neg not"), m.term(deep-1))
	case 5:
		return term("call", m.terms(1+m.Intn(3), deep-1)...)
	case 6:
		return term("index", m.terms(2, deep-1)...)
	case 7:
		if m.Intn(2) == 0 {
			return term("dict", m.terms(2*m.Intn(3), deep-1)...)
		}
		return term("list", m.terms(m.Intn(3), deep-1)...)
	case 8:
		return lambda(m.term(deep-1), m.names(0)...)
	}
	return term(m.pick("and or + - * // % == != < <= > >= is in"), m.terms(2, deep-1)...)
}

func (m maker) block(least, deep int) []tree.Stmt {
	var l []tree.Stmt
	for range least + m.Intn(3) {
		l = append(l, m.stmt(deep))
	}
	return l
}

func (m maker) stmt(deep int) tree.Stmt {
	kinds := "expr set put del return raise pass break continue global nonlocal"
	if deep > 0 {
		kinds += " if if if while for def try"
	}
	s := tree.Stmt{Kind: m.pick(kinds)}
	switch s.Kind {
	case "expr", "raise", "while", "if", "set", "for":
		s.L = m.terms(1, 3)
	case "put":
		s.L = m.terms(3, 3)
	case "del":
		s.L = m.terms(2, 3)
	case "return":
		s.L = m.terms(m.Intn(2), 3)
	case "global", "nonlocal":
		s.P = m.names(1)
	}
	switch s.Kind {
	case "set", "for", "def", "try":
		s.Name = m.pick("a b f g1")
	}
	switch s.Kind {
	case "if":
		s.Body, s.Else = m.block(1, deep-1), m.block(0, deep-1)
	case "while", "for":
		s.Body = m.block(1, deep-1)
	case "def":
		s.P, s.Body = m.names(0), m.block(1, deep-1)
	case "try":
		s.Body, s.Else = m.block(1, deep-1), m.block(1, deep-1)
	}
	return s
}

// P25: what is written is read; P24: laid out as it says, and no bracket too many.
func TestMadeUpTrees(t *testing.T) {
	m := maker{rand.New(rand.NewSource(1))}
	g := newGrammar()
	for n := range 3000 {
		l := m.block(0, 3)
		s, err := tree.Text(l)
		if err != nil {
			if err != api.ErrShape || len(s) != 0 || len(tell(l)) < api.MaxSource {
				t.Fatalf("%s: %q, %v", tell(l), s, err)
			}
			continue
		}
		reads(t, s, l...)
		if want := laidOut(t, s); s != want {
			t.Fatalf("%q; want %q", s, want)
		}
		if n < 400 {
			agree(t, g, s)
		}
		if len(s) < 400 {
			fewestBrackets(t, s, tell(l))
		}
	}
}

// laidOut lays the tokens of a program out anew, by what stands beside what.
func laidOut(t *testing.T, s string) string {
	l, err := lex.Lex(s)
	if err != nil {
		t.Fatal(err)
	}
	var out strings.Builder
	deep, ahead := 0, "newline" // a unary `-` is told apart by what stands ahead of it
	for _, x := range l {
		text := x.Text
		switch x.Kind {
		case "indent":
			deep++
			continue
		case "dedent":
			deep--
			continue
		case "end":
			continue
		case "newline":
			out.WriteString("\n")
			ahead = "newline"
			continue
		case "str":
			text = lex.Quote(x.Text)
		}
		closes := ahead == "atom" || strings.Contains(")]}", ahead)
		switch {
		case ahead == "newline":
			out.WriteString(strings.Repeat("    ", deep))
		case strings.Contains("([{ unary", ahead) || x.Kind == "op" && strings.Contains(")]},:", text):
		case closes && strings.Contains("([", text) && x.Kind == "op":
		default:
			out.WriteString(" ")
		}
		out.WriteString(text)
		ahead = text
		if x.Kind == "name" || x.Kind == "int" || x.Kind == "str" || strings.Contains("None True False", text) {
			ahead = "atom"
		} else if text == "-" && !closes {
			ahead = "unary"
		}
	}
	return out.String()
}

// fewestBrackets fails if a pair of brackets can go, and all else stays.
func fewestBrackets(t *testing.T, s, told string) {
	t.Helper()
	l, err := lex.Lex(s)
	if err != nil {
		t.Fatal(err)
	}
	var open []int
	for _, x := range l {
		if x.Kind != "op" {
			continue
		}
		if x.Text == "(" {
			open = append(open, x.At)
		} else if x.Text == ")" {
			from := open[len(open)-1]
			open = open[:len(open)-1]
			without := s[:from] + " " + s[from+1:x.At] + " " + s[x.At+1:]
			if again, err := tree.Read(without); err == nil && tell(again) == told {
				t.Errorf("%q has brackets that it does not need: %q", s, without)
			}
		}
	}
}

// P22, P23: made-up programs, a piece of which is gone, there twice, or another one.
func TestSpoiltPrograms(t *testing.T) {
	m := maker{rand.New(rand.NewSource(2))}
	g := newGrammar()
	for range 4000 {
		s, err := tree.Text(m.block(1, 2))
		if err != nil || len(s) > 300 {
			continue
		}
		lines := strings.SplitAfter(s, "\n")
		n := m.Intn(len(lines) - 1)
		body := strings.TrimLeft(lines[n], " ")
		blanks := lines[n][:len(lines[n])-len(body)]
		lines[n] = blanks + m.spoil(strings.Fields(body)) + "\n"
		p := strings.Join(lines, "")
		if _, err := lex.Lex(p); err == nil {
			agree(t, g, p)
		}
	}
}

func (m maker) spoil(pieces []string) string {
	n := m.Intn(len(pieces))
	switch m.Intn(3) {
	case 0:
		pieces[n] = ""
	case 1:
		pieces[n] += " " + pieces[n]
	default:
		pieces[n] = m.pick("( ) [ ] { } , : . = == + - * < in is and or not lambda a 1 None if else elif while for def try except del return pass global break")
	}
	return strings.Join(pieces, " ")
}

// P20, P21: whether small trees are such as the chapter has them; names are those that are made up here.
func rightTerms(l []tree.Expr) bool {
	for _, e := range l {
		n := len(e.L)
		right := e.N == 0 && e.S == "" && len(e.P) == 0
		switch e.Op {
		case "int":
			right = e.N >= 0 && e.S == "" && len(e.P) == 0 && n == 0
		case "str":
			right = e.N == 0 && len(e.P) == 0 && n == 0
		case "name":
			right = e.N == 0 && rightNames(e.S) && len(e.P) == 0 && n == 0
		case "None", "True", "False":
			right = right && n == 0
		case "neg", "not":
			right = right && n == 1
		case "call":
			right = right && n > 0
		case "list":
		case "dict":
			right = right && n%2 == 0
		case "lambda":
			right = e.N == 0 && e.S == "" && rightNames(e.P...) && n == 1
		case "index", "and", "or", "+", "-", "*", "//", "%", "==", "!=", "<", "<=", ">", ">=", "is", "in":
			right = right && n == 2
		default:
			right = false
		}
		if !right || !rightTerms(e.L) {
			return false
		}
	}
	return true
}

func rightNames(l ...string) bool {
	for _, s := range l {
		if !slices.Contains(strings.Fields("a b c x1 _ f g1"), s) {
			return false
		}
	}
	return true
}

func rightStmts(l []tree.Stmt) bool {
	for _, s := range l {
		// What each kind has: so many terms, a name, names, a body, an else.
		terms, named, listed, body, or := 0, false, false, false, false
		n := len(s.L)
		switch s.Kind {
		case "expr", "raise":
			terms = 1
		case "set":
			terms, named = 1, true
		case "put":
			terms = 3
		case "del":
			terms = 2
		case "return":
			terms = min(n, 1)
		case "if":
			terms, body, or = 1, true, len(s.Else) > 0
		case "while":
			terms, body = 1, true
		case "for":
			terms, named, body = 1, true, true
		case "def":
			named, listed, body = true, len(s.P) > 0, true
		case "try":
			named, body, or = true, true, true
		case "global", "nonlocal":
			listed = true
		case "break", "continue", "pass":
		default:
			return false
		}
		if n != terms || named != (s.Name != "") || named && !rightNames(s.Name) || listed != (len(s.P) > 0) || !rightNames(s.P...) || body != (len(s.Body) > 0) || or != (len(s.Else) > 0) {
			return false
		}
		if !rightTerms(s.L) || !rightStmts(s.Body) || !rightStmts(s.Else) {
			return false
		}
	}
	return true
}

// damage changes one field of one statement or term somewhere.
func (m maker) damage(l []tree.Stmt) {
	s := &l[m.Intn(len(l))]
	switch m.Intn(9) {
	case 0:
		s.Kind = m.pick("expr set put del if while for def return raise try break continue pass global nonlocal elif x")
	case 1:
		s.Name = []string{"", "a", "if", "A", "a b"}[m.Intn(5)]
	case 2:
		s.P = append(s.P, []string{"a", "", "in", "1"}[m.Intn(4)])
	case 3:
		s.P = nil
	case 4:
		s.L = m.terms(m.Intn(4), 1)
	case 5:
		s.Body = m.block(0, 0)
	case 6:
		s.Else = m.block(0, 0)
	case 7:
		for _, inner := range [][]tree.Stmt{s.Body, s.Else} {
			if len(inner) > 0 {
				m.damage(inner)
				return
			}
		}
	default:
		if len(s.L) > 0 {
			m.damageTerm(s.L)
		}
	}
}

func (m maker) damageTerm(l []tree.Expr) {
	e := &l[m.Intn(len(l))]
	if len(e.L) > 0 && m.Intn(2) == 0 {
		m.damageTerm(e.L)
		return
	}
	switch m.Intn(5) {
	case 0:
		e.Op = m.pick("int str None True False name neg not and + < in is call index list dict lambda ** x")
	case 1:
		e.N = int64(m.Intn(3) - 1)
	case 2:
		e.S = []string{"", "a", "if", "None"}[m.Intn(4)]
	case 3:
		e.P = append(e.P, []string{"a", "", "in"}[m.Intn(3)])
	default:
		e.L = m.terms(m.Intn(4), 1)
	}
}

// P20, P21, P24: a tree has a text just if it is right.
func TestDamagedTrees(t *testing.T) {
	m := maker{rand.New(rand.NewSource(3))}
	right := 0
	for range 30000 {
		l := m.block(1, 2)
		m.damage(l)
		if len(tell(l)) > api.MaxSource/2 {
			continue
		}
		s, err := tree.Text(l)
		if !rightStmts(l) {
			noText(t, tell(l), l)
			continue
		}
		right++
		if err != nil {
			t.Errorf("%s: %v", tell(l), err)
		}
		reads(t, s, l...)
	}
	if right < 1000 {
		t.Errorf("just %d were right", right)
	}
}
