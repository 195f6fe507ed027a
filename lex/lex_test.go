package lex_test

import (
	"errors"
	"slices"
	"strconv"
	"strings"
	"sync"
	"testing"

	"nurserypy/api"
	"nurserypy/lex"
)

// told writes tokens as `KIND TEXT AT`, TEXT quoted, one behind the other.
func told(l []lex.Token) string {
	var out []string
	for _, t := range l {
		out = append(out, t.Kind+" "+strconv.Quote(t.Text)+" "+strconv.Itoa(t.At))
	}
	return strings.Join(out, ", ")
}

// wants fails unless the program has just these tokens.
func wants(t *testing.T, s string, want ...lex.Token) {
	t.Helper()
	l, err := lex.Lex(s)
	if err != nil || !slices.Equal(l, want) {
		t.Errorf("%q: %s, %v; want %s", s, told(l), err, told(want))
	}
}

// wantsFault fails unless the program is none, by ErrText at that byte.
func wantsFault(t *testing.T, s string, at int) {
	t.Helper()
	l, err := lex.Lex(s)
	var f *api.Fault
	if !errors.As(err, &f) || f.At != at || f.Err != api.ErrText {
		t.Errorf("%q: %s, %#v; want a fault at %d", s, told(l), err, at)
	}
	if len(l) != 0 {
		t.Errorf("%q: tokens beside an error: %s", s, told(l))
	}
}

// wantsOne fails unless the line has this one token.
func wantsOne(t *testing.T, s, kind, text string) {
	t.Helper()
	wants(t, s, lex.Token{Kind: kind, Text: text}, lex.Token{Kind: "newline", At: len(s)}, lex.Token{Kind: "end", At: len(s)})
}

// P10: each kind, with its text and its place.
func TestKindsAndPlaces(t *testing.T) {
	wants(t, "if a1 <= 20:\n  b = \"x\\n\"  # c\nd",
		lex.Token{Kind: "word", Text: "if", At: 0},
		lex.Token{Kind: "name", Text: "a1", At: 3},
		lex.Token{Kind: "op", Text: "<=", At: 6},
		lex.Token{Kind: "int", Text: "20", At: 9},
		lex.Token{Kind: "op", Text: ":", At: 11},
		lex.Token{Kind: "newline", At: 12},
		lex.Token{Kind: "indent", At: 15},
		lex.Token{Kind: "name", Text: "b", At: 15},
		lex.Token{Kind: "op", Text: "=", At: 17},
		lex.Token{Kind: "str", Text: "x\n", At: 19},
		lex.Token{Kind: "newline", At: 29},
		lex.Token{Kind: "dedent", At: 30},
		lex.Token{Kind: "name", Text: "d", At: 30},
		lex.Token{Kind: "newline", At: 31},
		lex.Token{Kind: "end", At: 31},
	)
}

// P10: the words, all of them, and nothing that only begins with one.
func TestWords(t *testing.T) {
	const all = "and break continue def del elif else except False for global if in is lambda None nonlocal not or pass raise return True try while"
	for _, w := range strings.Fields(all) {
		wantsOne(t, w, "word", w)
		if w[0] >= 'a' {
			wantsOne(t, w+"1", "name", w+"1")
			wantsOne(t, "_"+w, "name", "_"+w)
		}
	}
	for _, n := range []string{"none", "true", "false", "class", "import", "print", "as", "with", "yield", "assert", "from", "finally", "async", "match", "i", "whil"} {
		wantsOne(t, n, "name", n)
	}
}

// P11: lines without tokens, and the byte 10 that the last one may lack.
func TestLines(t *testing.T) {
	for _, s := range []string{"", "\n", "\n\n", "   ", "  \n", "# a", "   # a\n", "#", "#\n  #\x00\t\xff\"\n\n"} {
		wants(t, s, lex.Token{Kind: "end", At: len(s)})
	}
	a, end := lex.Token{Kind: "name", Text: "a"}, lex.Token{Kind: "end", At: 2}
	wants(t, "a\n", a, lex.Token{Kind: "newline", At: 1}, end)
	wants(t, "a ", a, lex.Token{Kind: "newline", At: 2}, end)
	wants(t, "a#", a, lex.Token{Kind: "newline", At: 2}, end)
	wants(t, "a #b\n\n# c\nd",
		a,
		lex.Token{Kind: "newline", At: 4},
		lex.Token{Kind: "name", Text: "d", At: 10},
		lex.Token{Kind: "newline", At: 11},
		lex.Token{Kind: "end", At: 11},
	)
}

// P11: a line that has no tokens opens and closes nothing.
func TestLinesBetween(t *testing.T) {
	wants(t, "a\n  b\n\n # c\n        \n  d\n",
		lex.Token{Kind: "name", Text: "a", At: 0},
		lex.Token{Kind: "newline", At: 1},
		lex.Token{Kind: "indent", At: 4},
		lex.Token{Kind: "name", Text: "b", At: 4},
		lex.Token{Kind: "newline", At: 5},
		lex.Token{Kind: "name", Text: "d", At: 23},
		lex.Token{Kind: "newline", At: 24},
		lex.Token{Kind: "dedent", At: 25},
		lex.Token{Kind: "end", At: 25},
	)
}

// kinds writes a program's tokens in short: `>` indent, `<` dedent, `;` newline, `.` end, else the text.
func kinds(t *testing.T, s string) string {
	t.Helper()
	l, err := lex.Lex(s)
	if err != nil {
		t.Errorf("%q: %v", s, err)
	}
	var out strings.Builder
	for _, x := range l {
		switch x.Kind {
		case "indent":
			out.WriteString(">")
		case "dedent":
			out.WriteString("<")
		case "newline":
			out.WriteString(";")
		case "end":
			out.WriteString(".")
		default:
			out.WriteString(x.Text)
		}
	}
	return out.String()
}

// P11: what is opened is closed, one dedent each, at the latest at the end.
func TestIndentation(t *testing.T) {
	for s, want := range map[string]string{
		"  a":                      ">a;<.",
		"  a\nb":                   ">a;<b;.",
		"a\n b\n c\nd":             "a;>b;c;<d;.",
		"a\n b\n  c\n     d\n b":   "a;>b;>c;>d;<<b;<.",
		"a\n b\n  c\n     d\ne":    "a;>b;>c;>d;<<<e;.",
		"a\n b\n  c\n     d":       "a;>b;>c;>d;<<<.",
		"a\n b\nc\n   d\n":         "a;>b;<c;>d;<.",
		"a\n b\n  c\n b\n   d\n b": "a;>b;>c;<b;>d;<b;<.",
		"a\n b\n#c\n  # d\n":       "a;>b;<.",
	} {
		if got := kinds(t, s); got != want {
			t.Errorf("%q: %s; want %s", s, got, want)
		}
	}
}

// P13: an indentation that is less must be open.
func TestIndentationFaults(t *testing.T) {
	wantsFault(t, "a\n  b\n c", 7)
	wantsFault(t, "  a\n b", 5)
	wantsFault(t, "a\n  b\n  # c\n    \n d #", 18)
	wantsFault(t, "a\n b\n   c\n  d", 12)
	wantsFault(t, "a\n    b\n  \"", 10)
	wantsFault(t, "a\n  b\nc\n  d\n e", 13)
	wantsFault(t, "a\n  b\n   c\nd\n  e\n   f\n g", 23)
}

// P12: names, their bytes and their length.
func TestNames(t *testing.T) {
	for _, s := range []string{"a", "z", "_", "__", "a9", "_0", "az_09", strings.Repeat("a", api.MaxName)} {
		wantsOne(t, s, "name", s)
	}
	wantsFault(t, strings.Repeat("a", api.MaxName+1), 0)
	wantsFault(t, "a = _"+strings.Repeat("0", api.MaxName), 4)
	wantsFault(t, "while"+strings.Repeat("a", api.MaxName), 0)
	wantsFault(t, "aB", 1)
	wantsFault(t, "A", 0)
	wantsFault(t, "a\u00e9", 1)
	wantsFault(t, "a'", 1)
}

// P12: words with a capital letter are just those.
func TestCapitals(t *testing.T) {
	for _, s := range []string{"Nonex", "None1", "None_", "Non", "N", "Tru", "True0", "Falsey", "Nil", "NONE"} {
		wantsFault(t, s, 0)
	}
	wantsFault(t, "NoneX", 4)
	wantsFault(t, "True False Falses", 11)
	wantsFault(t, "aNone1", 1)
}

// P12: nothing need stand between two tokens.
func TestNothingBetween(t *testing.T) {
	wants(t, "1aTrue\"\"0x",
		lex.Token{Kind: "int", Text: "1", At: 0},
		lex.Token{Kind: "name", Text: "a", At: 1},
		lex.Token{Kind: "word", Text: "True", At: 2},
		lex.Token{Kind: "str", Text: "", At: 6},
		lex.Token{Kind: "int", Text: "0", At: 8},
		lex.Token{Kind: "name", Text: "x", At: 9},
		lex.Token{Kind: "newline", At: 10},
		lex.Token{Kind: "end", At: 10},
	)
	wants(t, "NoneTrue",
		lex.Token{Kind: "word", Text: "None", At: 0},
		lex.Token{Kind: "word", Text: "True", At: 4},
		lex.Token{Kind: "newline", At: 8},
		lex.Token{Kind: "end", At: 8},
	)
}

// P12: ints, from 0 to the greatest.
func TestInts(t *testing.T) {
	for _, s := range []string{"0", "7", "10", "100", "1234567890", "9223372036854775807"} {
		wantsOne(t, s, "int", s)
	}
	for _, s := range []string{"00", "01", "007", "9223372036854775808", "18446744073709551616", "1" + strings.Repeat("0", 5000), "09223372036854775807"} {
		wantsFault(t, s, 0)
		wantsFault(t, "x = "+s, 4)
	}
}

// P12: what strs mean.
func TestStrs(t *testing.T) {
	for s, want := range map[string]string{
		`""`:               "",
		`"a b"`:            "a b",
		`" ~!#'"`:          " ~!#'",
		`"\n\"\\"`:         "\n\"\\",
		`"\x00\x0a\x41"`:   "\x00\nA",
		`"\xff\x7f\x9f"`:   "\xff\x7f\x9f",
		`"\\n\\x41"`:       `\n\x41`,
		`"\x414"`:          "A4",
		`"None # 1 \"a\""`: `None # 1 "a"`,
	} {
		wantsOne(t, s, "str", want)
	}
}

// P12, P13: a str that is none is told at its first byte.
func TestStrFaults(t *testing.T) {
	for _, s := range []string{`"`, `"abc`, `"\"`, `"a\`, `"\x`, `"\x0`, `"\x0"`, `"\x0g"`, `"\xg0"`, `"\x0A"`, `"\X00"`, `"\q"`, `"\t"`, `"\0"`, `"\'"`, "\"a\nb\"", "\"a\\\nb\"", "\"\t\"", "\"\x1f\"", "\"\x7f\"", "\"\x80\"", "\"\xc3\xa9\"", "\"\x00\""} {
		wantsFault(t, s, 0)
		wantsFault(t, `"" `+s, 3)
		wantsFault(t, "x="+s+"\n?", 2)
	}
}

// P12: ops, the longest that there is.
func TestOps(t *testing.T) {
	all := strings.Fields("== != <= >= // < > = + - * % ( ) [ ] { } , : .")
	for _, o := range all {
		wantsOne(t, o, "op", o)
	}
	for s, want := range map[string][]string{
		"===": {"==", "="}, "<==": {"<=", "="}, ">>=": {">", ">="}, "!==": {"!=", "="}, "=!=": {"=", "!="},
		"//=": {"//", "="}, "**": {"*", "*"}, "<>": {"<", ">"}, "+=": {"+", "="}, "->": {"-", ">"}, ":=": {":", "="}, "[]": {"[", "]"},
	} {
		l, err := lex.Lex(s)
		var got []string
		for _, x := range l {
			if x.Kind == "op" {
				got = append(got, x.Text)
			}
		}
		if err != nil || !slices.Equal(got, want) {
			t.Errorf("%s: %v, %v", s, got, err)
		}
	}
}

// P13: what begins no token.
func TestFaults(t *testing.T) {
	for b := range 256 {
		if b == ' ' || b == '\n' || b == '#' || b == '"' || strings.IndexByte("<>=+-*%()[]{},:.", byte(b)) >= 0 || b >= '0' && b <= '9' || b >= 'a' && b <= 'z' || b == '_' {
			continue
		}
		wantsFault(t, string([]byte{byte(b)}), 0)
		wantsFault(t, "a\n "+string([]byte{byte(b)})+"\n", 3)
	}
	wantsFault(t, "a / b", 2)
	wantsFault(t, "a///b", 3)
	wantsFault(t, "! =", 0)
	wantsFault(t, "a\r\n", 1)
	wantsFault(t, " \t", 1)
	wantsFault(t, "a ?\n01", 2)
	wantsFault(t, "01 ?", 0)
}

// P13, P3: too long is told bare, and ahead of all else.
func TestBound(t *testing.T) {
	for _, s := range []string{strings.Repeat(" ", api.MaxSource+1), strings.Repeat("?", api.MaxSource+1), strings.Repeat("a\n", api.MaxSource)} {
		if l, err := lex.Lex(s); err != api.ErrBound || len(l) != 0 {
			t.Errorf("%d bytes: %d tokens, %v", len(s), len(l), err)
		}
	}
	s := strings.Repeat("a\n", api.MaxSource/2)
	if l, err := lex.Lex(s); err != nil || len(l) != api.MaxSource+1 {
		t.Errorf("%d bytes: %d tokens, %v", len(s), len(l), err)
	}
	wantsFault(t, strings.Repeat("?", api.MaxSource), 0)
}

// P2, P4: answers are alike, whoever works beside, and nobody sees what another one writes into his.
func TestAnswersAreTheirOwn(t *testing.T) {
	const s = "if a:\n  b\n\nelse:\n  \"c\"\n"
	want, _ := lex.Lex(s)
	var all sync.WaitGroup
	for range 8 {
		all.Go(func() {
			l, err := lex.Lex(s)
			if err != nil || !slices.Equal(l, want) {
				t.Errorf("%s, %v", told(l), err)
			}
			clear(l)
		})
	}
	all.Wait()
	wants(t, s, want...)
}
