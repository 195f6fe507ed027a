package lex_test

import (
	"slices"
	"strings"
	"testing"

	"nurserypy/api"
	"nurserypy/lex"
)

func tok(kind, text string) lex.Token { return lex.Token{Kind: kind, Text: text} }

var (
	newline = tok("newline", "")
	indent  = tok("indent", "")
	dedent  = tok("dedent", "")
	end     = tok("end", "")
	nameA   = tok("name", "a")
)

// P14: the one way in which a program is laid out.
func TestText(t *testing.T) {
	for s, want := range map[string]string{
		"":                            "",
		"\n  # x\n":                   "",
		"a":                           "a\n",
		"f(1,-2)#x":                   "f ( 1 , - 2 )\n",
		"if a :\n  b\n\n  c\nd":       "if a :\n    b\n    c\nd\n",
		" a\n  b\n   c\n  d\n e":      "    a\n        b\n            c\n        d\n    e\n",
		"a\n b\n  c\nd":               "a\n    b\n        c\nd\n",
		"1a\"\"None":                  "1 a \"\" None\n",
		`"\x41\x0a\x22\x5c\x00\x7e"`:  `"A\n\"\\\x00~"` + "\n",
		`"\x7f\x80\xff\x1f\x20\n\\n"`: `"\x7f\x80\xff\x1f \n\\n"` + "\n",
	} {
		l, err := lex.Lex(s)
		if err != nil {
			t.Errorf("%q: %v", s, err)
		}
		if got, err := lex.Text(l); got != want || err != nil {
			t.Errorf("%q: %q, %v; want %q", s, got, err, want)
		}
	}
}

// P14: At is not asked.
func TestTextWithoutPlaces(t *testing.T) {
	l := []lex.Token{{Kind: "name", Text: "a", At: -7}, {Kind: "op", Text: "=", At: 1 << 40}, {Kind: "str", Text: "\xff", At: 3}, newline, end}
	if got, err := lex.Text(l); got != "a = \"\\xff\"\n" || err != nil {
		t.Errorf("%q, %v", got, err)
	}
}

// P14, P3: what no program has, told bare.
func TestNoText(t *testing.T) {
	for name, l := range map[string][]lex.Token{
		"nothing":                     nil,
		"an empty list":               {},
		"no end":                      {nameA, newline},
		"no newline":                  {nameA, end},
		"two ends":                    {end, end},
		"behind the end":              {end, nameA, newline},
		"an end within":               {nameA, newline, end, nameA, newline, end},
		"an end within a line":        {nameA, end, newline, end},
		"an empty line":               {newline, end},
		"an empty line within":        {nameA, newline, newline, nameA, newline, end},
		"an empty line that opens":    {nameA, newline, indent, newline, nameA, newline, dedent, end},
		"an indent within a line":     {nameA, indent, nameA, newline, dedent, end},
		"an indent twice":             {nameA, newline, indent, indent, nameA, newline, dedent, dedent, end},
		"an indent not closed":        {nameA, newline, indent, nameA, newline, end},
		"an indent at the end":        {nameA, newline, indent, end},
		"an indent that is closed":    {nameA, newline, indent, dedent, nameA, newline, end},
		"a dedent that opens":         {indent, nameA, newline, dedent, indent, nameA, newline, dedent, end},
		"a dedent alone":              {dedent, end},
		"a dedent too many":           {nameA, newline, indent, nameA, newline, dedent, dedent, end},
		"a dedent, then an indent":    {dedent, indent, end},
		"a dedent within a line":      {indent, nameA, dedent, newline, end},
		"a dedent ahead of newline":   {indent, nameA, newline, nameA, dedent, newline, end},
		"a word that is a name":       {tok("word", "a"), newline, end},
		"a name that is a word":       {tok("name", "if"), newline, end},
		"a name with a capital":       {tok("name", "A"), newline, end},
		"a word that is none":         {tok("word", "Nonex"), newline, end},
		"a name of a None":            {tok("name", "None"), newline, end},
		"a name too long":             {tok("name", strings.Repeat("a", api.MaxName+1)), newline, end},
		"a name without text":         {tok("name", ""), newline, end},
		"a name of two":               {tok("name", "a b"), newline, end},
		"a name with a line":          {tok("name", "a\na"), newline, end},
		"a name with a blank":         {tok("name", " a"), newline, end},
		"a name with a blank behind":  {tok("name", "a "), newline, end},
		"a name with a comment":       {tok("name", "a#"), newline, end},
		"a comment":                   {tok("name", "#"), newline, end},
		"an int with a 0 ahead":       {tok("int", "01"), newline, end},
		"an int below 0":              {tok("int", "-1"), newline, end},
		"an int that is too great":    {tok("int", "9223372036854775808"), newline, end},
		"an int that is a name":       {tok("int", "a"), newline, end},
		"an int without text":         {tok("int", ""), newline, end},
		"an op that is none":          {tok("op", "!"), newline, end},
		"two ops as one":              {tok("op", "**"), newline, end},
		"an op without text":          {nameA, tok("op", ""), newline, end},
		"an op that is a word":        {tok("op", "and"), newline, end},
		"a str as an op":              {tok("op", `""`), newline, end},
		"a kind that is none":         {tok("bytes", "a"), newline, end},
		"no kind":                     {tok("", "a"), newline, end},
		"a newline with text":         {nameA, tok("newline", "\n"), end},
		"an indent with text":         {nameA, newline, tok("indent", "    "), nameA, newline, dedent, end},
		"a dedent with text":          {nameA, newline, indent, nameA, newline, tok("dedent", "a"), end},
		"an end with text":            {nameA, newline, tok("end", "a")},
		"a program within one token":  {tok("name", "a\n"), end},
		"indents beyond all bounds":   slices.Repeat([]lex.Token{indent}, 100000),
		"dedents beyond all bounds":   slices.Repeat([]lex.Token{dedent}, 100000),
		"newlines beyond all bounds":  slices.Repeat([]lex.Token{newline}, 100000),
		"ends beyond all bounds":      slices.Repeat([]lex.Token{end}, 100000),
		"a str beyond all bounds":     {tok("str", strings.Repeat("\x00", 1<<20)), newline, end},
		"lines that only open, never": {indent, newline, dedent, end},
	} {
		if s, err := lex.Text(l); s != "" || err != api.ErrShape {
			t.Errorf("%s: %q, %v", name, s, err)
		}
	}
}

// P14: a program of more than MaxSource bytes is none, as it is laid out.
func TestTextBound(t *testing.T) {
	line := func(first string, more int) []lex.Token {
		l := []lex.Token{tok("name", first)}
		return append(append(l, slices.Repeat([]lex.Token{nameA}, more)...), newline, end)
	}
	most := api.MaxSource/2 - 1
	if s, err := lex.Text(line("a", most)); len(s) != api.MaxSource || err != nil {
		t.Errorf("%d bytes, %v", len(s), err)
	}
	if s, err := lex.Text(line("aa", most)); s != "" || err != api.ErrShape {
		t.Errorf("%d bytes, %v", len(s), err)
	}
	short, err := lex.Lex(strings.Repeat("+", api.MaxSource))
	if err != nil {
		t.Error(err)
	}
	if s, err := lex.Text(short); s != "" || err != api.ErrShape {
		t.Errorf("%d bytes, %v", len(s), err)
	}
}

// P14: what a str takes as it is laid out counts: two bytes, or four.
func TestTextBoundOfStrs(t *testing.T) {
	for part, size := range map[string]int{"\n": 2, "\\": 2, "\"": 2, "\x00": 4, "~": 1} {
		room := api.MaxSource - len("\"\"\n")
		most := room / size
		if s, err := lex.Text([]lex.Token{tok("str", strings.Repeat(part, most)), newline, end}); len(s) != most*size+3 || err != nil {
			t.Errorf("%q: %d bytes, %v", part, len(s), err)
		}
		if s, err := lex.Text([]lex.Token{tok("str", strings.Repeat(part, most+1)), newline, end}); s != "" || err != api.ErrShape {
			t.Errorf("%q: %d bytes, %v", part, len(s), err)
		}
	}
}

// P4, P3: a list is only read, and not behind its length.
func TestTextOnlyReads(t *testing.T) {
	room := []lex.Token{nameA, newline, end, tok("name", "b"), tok("op", "?")}
	kept := slices.Clone(room)
	if s, err := lex.Text(room[:3]); s != "a\n" || err != nil {
		t.Errorf("%q, %v", s, err)
	}
	if !slices.Equal(room, kept) {
		t.Errorf("changed: %s", told(room))
	}
}
