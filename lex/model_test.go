package lex_test

import (
	"errors"
	"math/big"
	"math/rand"
	"regexp"
	"slices"
	"strconv"
	"strings"
	"testing"

	"nurserypy/api"
	"nurserypy/lex"
)

// A second reading of chapter 1, by patterns: it answers the tokens, or the place of the first fault (else -1).
type model struct {
	open   []int
	tokens []lex.Token
}

var (
	modelParts = regexp.MustCompile(`^(?:([A-Za-z_][a-z_0-9]*)|("(?:[ !#-\[\]-~]|\\[n"\\]|\\x[0-9a-f]{2})*")|(==|!=|<=|>=|//|[<>=+*%()\[\]{},:.-]))`)
	modelWords = regexp.MustCompile(`^(and|break|continue|def|del|elif|else|except|False|for|global|if|in|is|lambda|None|nonlocal|not|or|pass|raise|return|True|try|while)$`)
	modelName  = regexp.MustCompile(`^[a-z_][a-z_0-9]{0,15}$`)
	modelInt   = regexp.MustCompile(`^(0|[1-9][0-9]*)`)
	modelEmpty = regexp.MustCompile(`^ *(#.*)?$`)
)

func (m *model) read(s string) int {
	m.open = []int{0}
	lines := strings.SplitAfter(s, "\n")
	at := 0
	for _, line := range lines {
		if f := m.line(strings.TrimSuffix(line, "\n"), at); f >= 0 {
			return f
		}
		at += len(line)
	}
	for range len(m.open) - 1 {
		m.tokens = append(m.tokens, lex.Token{Kind: "dedent", At: len(s)})
	}
	m.tokens = append(m.tokens, lex.Token{Kind: "end", At: len(s)})
	return -1
}

func (m *model) line(line string, at int) int {
	latin := []rune{} // patterns read runes: each byte must be one
	for _, b := range []byte(line) {
		latin = append(latin, rune(b))
	}
	if modelEmpty.MatchString(string(latin)) {
		return -1
	}
	blanks := len(line) - len(strings.TrimLeft(line, " "))
	if blanks > slices.Max(m.open) {
		m.open = append(m.open, blanks)
		m.tokens = append(m.tokens, lex.Token{Kind: "indent", At: at + blanks})
	}
	for slices.Max(m.open) > blanks {
		m.open = m.open[:len(m.open)-1]
		m.tokens = append(m.tokens, lex.Token{Kind: "dedent", At: at + blanks})
	}
	if !slices.Contains(m.open, blanks) {
		return at + blanks
	}
	for i := blanks; ; {
		for i < len(line) && line[i] == ' ' {
			i++
		}
		if i == len(line) || line[i] == '#' {
			m.tokens = append(m.tokens, lex.Token{Kind: "newline", At: at + len(line)})
			return -1
		}
		n, kind, text := modelToken(string(latin[i:]))
		if n == 0 {
			return at + i
		}
		m.tokens = append(m.tokens, lex.Token{Kind: kind, Text: text, At: at + i})
		i += n
	}
}

func modelToken(s string) (n int, kind, text string) {
	if s[0] >= '0' && s[0] <= '9' {
		digits := s[:len(s)-len(strings.TrimLeft(s, "0123456789"))]
		x, _ := new(big.Int).SetString(digits, 10)
		if modelInt.FindString(digits) != digits || !x.IsInt64() {
			return 0, "", ""
		}
		return len(digits), "int", digits
	}
	p := modelParts.FindStringSubmatch(s)
	switch {
	case p == nil:
		return 0, "", ""
	case modelWords.MatchString(p[1]):
		return len(p[1]), "word", p[1]
	case modelName.MatchString(p[1]):
		return len(p[1]), "name", p[1]
	case p[2] != "":
		text, err := strconv.Unquote(p[2])
		if err != nil {
			panic(err)
		}
		return len(p[2]), "str", text
	case p[3] != "":
		return len(p[3]), "op", p[3]
	}
	return 0, "", ""
}

// agrees holds Lex against the model, and what Text tells against the tokens (P15).
func agrees(t *testing.T, s string) {
	t.Helper()
	var m model
	fault := m.read(s)
	l, err := lex.Lex(s)
	if fault >= 0 {
		var f *api.Fault
		if !errors.As(err, &f) || f.At != fault || f.Err != api.ErrText || len(l) != 0 {
			t.Fatalf("%q: %s, %v; want a fault at %d", s, told(l), err, fault)
		}
		return
	}
	if err != nil || !slices.Equal(l, m.tokens) {
		t.Fatalf("%q: %s, %v; want %s", s, told(l), err, told(m.tokens))
	}
	comesBack(t, l)
}

// comesBack: what Text tells has the tokens again, and is told again the same.
func comesBack(t *testing.T, l []lex.Token) {
	t.Helper()
	text, err := lex.Text(l)
	if err != nil {
		t.Fatalf("%s: %v", told(l), err)
	}
	again, err := lex.Lex(text)
	same := slices.EqualFunc(l, again, func(a, b lex.Token) bool { return a.Kind == b.Kind && a.Text == b.Text })
	if err != nil || !same {
		t.Fatalf("%q: %s, %v; want %s", text, told(again), err, told(l))
	}
	if twice, err := lex.Text(again); twice != text || err != nil {
		t.Fatalf("%q: %q, %v", text, twice, err)
	}
}

// P10 to P15: all short programs of some bytes that matter beside each other.
func TestAllShortPrograms(t *testing.T) {
	for _, bytes := range []string{"a \n#", "\"\\x0n\n", "01a_N \n", "=!</ \n-\t"} {
		var grow func(s string, left int)
		grow = func(s string, left int) {
			agrees(t, s)
			if left > 0 {
				for _, b := range []byte(bytes) {
					grow(s+string(rune(b)), left-1)
				}
			}
		}
		grow("", 11-len(bytes))
	}
}

// P1, P10 to P15: longer ones, out of pieces; the seed stands, so that each run is the same.
func TestPrograms(t *testing.T) {
	pieces := []string{"a", "b1", "if", "None", "True", "nonlocal", "10", "9223372036854775807", "0", "\"x\\n\"", "\"\\xff\\\\\"", "==", "=", "//", "(", ")", ":", ",", ".", " ", " ", "  ", "\n", "\n", "\n  ", "\n    ", "\n ", "# c\n", "\n\n", "\n# d"}
	odd := []string{"\t", "!", "/", "N", "01", "\"", "\x00", "\xff", "\\", "9223372036854775808", "abcdefghijklmnopq"}
	r := rand.New(rand.NewSource(1))
	for range 20000 {
		var s strings.Builder
		for range r.Intn(40) {
			if r.Intn(60) == 0 {
				s.WriteString(odd[r.Intn(len(odd))])
			} else {
				s.WriteString(pieces[r.Intn(len(pieces))])
			}
		}
		agrees(t, s.String())
	}
}

// P1: any bytes.
func TestAnyBytes(t *testing.T) {
	r := rand.New(rand.NewSource(2))
	for range 20000 {
		b := make([]byte, r.Intn(12))
		for i := range b {
			b[i] = byte(r.Intn(256))
		}
		agrees(t, string(b))
	}
}

// P1, P14, P15: any tokens; what Text tells has them again, and what it does not tell is no program's.
func TestAnyTokens(t *testing.T) {
	some := []lex.Token{nameA, nameA, nameA, tok("word", "if"), tok("op", ":"), tok("str", "\n\xff"), tok("int", "5"), newline, newline, newline, indent, dedent, tok("name", "None"), tok("op", "")}
	r := rand.New(rand.NewSource(3))
	told := 0
	for range 200000 {
		l := []lex.Token{}
		for range r.Intn(9) {
			l = append(l, some[r.Intn(len(some))])
		}
		l = append(l, end)
		_, err := lex.Text(l)
		if shaped(l) != (err == nil) {
			t.Fatalf("%v: %v", l, err)
		}
		if err == nil {
			told++
			comesBack(t, l)
		}
	}
	if told < 1000 {
		t.Errorf("only %d of them were programs", told)
	}
}

// shaped tells of tokens of TestAnyTokens whether a program has them, by a pattern of their kinds.
func shaped(l []lex.Token) bool {
	var kinds strings.Builder
	depth := 0
	for _, x := range l {
		switch {
		case x.Kind == "newline":
			kinds.WriteByte('n')
		case x.Kind == "indent":
			depth++
			kinds.WriteByte('i')
		case x.Kind == "dedent":
			depth--
			kinds.WriteByte('d')
		case x.Kind == "end":
			kinds.WriteByte('e')
		case x.Text == "" || x.Text == "None":
			return false
		default:
			kinds.WriteByte('t')
		}
		if depth < 0 {
			return false
		}
	}
	return depth == 0 && regexp.MustCompile(`^((i|d*)t+n)*d*e$`).MatchString(kinds.String())
}
