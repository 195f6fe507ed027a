package rules_test

import (
	"math"
	"math/big"
	"slices"
	"strings"
	"testing"

	"nurserypy/api"
	"nurserypy/rules"
)

// P42: ints of all sizes, held against ones without bounds.
func TestNumber(t *testing.T) {
	var all []int64
	for _, n := range []int64{0, 1, 2, 3, 7, 10, 1 << 31, 1<<32 - 1, 3037000499, 3037000500, 1 << 61, 1 << 62, math.MaxInt64 - 1, math.MaxInt64} {
		all = append(all, n, -n, -n-1)
	}
	names := [][2]string{{"+", "add"}, {"-", "sub"}, {"*", "mul"}, {"//", "div"}, {"%", "mod"}}
	for _, x := range all {
		for _, y := range all {
			for _, name := range names {
				n, wrong := rules.Number(name[0], x, y)
				if m, bad := rules.Number(name[1], x, y); m != n || bad != wrong {
					t.Fatal(x, name, y, n, wrong, m, bad)
				}
				want, raises := number(name[0], x, y)
				if n != want || wrong != raises {
					t.Errorf("%d %s %d: %d %q, want %d %q", x, name[0], y, n, wrong, want, raises)
				}
			}
		}
	}
}

func number(name string, x, y int64) (int64, string) {
	a, b, c := big.NewInt(x), big.NewInt(y), new(big.Int)
	switch name {
	case "+":
		c.Add(a, b)
	case "-":
		c.Sub(a, b)
	case "*":
		c.Mul(a, b)
	default:
		if y == 0 {
			return 0, "ZeroDivisionError"
		}
		quotient, rest := new(big.Int).QuoRem(a, b, new(big.Int))
		if rest.Sign() != 0 && rest.Sign() != b.Sign() {
			quotient.Sub(quotient, big.NewInt(1))
			rest.Add(rest, b)
		}
		c = map[string]*big.Int{"//": quotient, "%": rest}[name]
	}
	if !c.IsInt64() {
		return 0, "OverflowError"
	}
	return c.Int64(), ""
}

// P41, P43, P45: bounds, on both sides.
func TestBounds(t *testing.T) {
	for n, want := range map[int]string{0: "", api.MaxLength: "", api.MaxLength + 1: "OverflowError"} {
		if got := rules.Fits(n); got != want {
			t.Error(n, got)
		}
	}
	for n, want := range map[int]string{1: "", api.MaxNest: "", api.MaxNest + 1: "RecursionError"} {
		if got := rules.Nests(n); got != want {
			t.Error(n, got)
		}
	}
	for end, want := range map[int64]int{math.MinInt64: 0, -1: 0, 0: 0, 1: 1, api.MaxLength: api.MaxLength} {
		if got, wrong := rules.Counted(end); got != want || wrong != "" {
			t.Error(end, got, wrong)
		}
	}
	for _, end := range []int64{api.MaxLength + 1, math.MaxInt64} {
		if got, wrong := rules.Counted(end); got != 0 || wrong != "OverflowError" {
			t.Error(end, got, wrong)
		}
	}
	for at, want := range map[int64]int{0: 0, 2: 2, -1: 2, -3: 0} {
		if got, wrong := rules.Place(at, 3); got != want || wrong != "" {
			t.Error(at, got, wrong)
		}
	}
	for _, at := range []int64{3, -4, math.MaxInt64, math.MinInt64} {
		if got, wrong := rules.Place(at, 3); got != 0 || wrong != "IndexError" {
			t.Error(at, got, wrong)
		}
	}
}

// P40: input and fuel.
func TestAllowed(t *testing.T) {
	long := strings.Repeat("x", api.MaxLength)
	for _, row := range []struct {
		input []string
		fuel  int
		want  bool
	}{
		{nil, 0, true}, {make([]string, api.MaxInput), api.MaxFuel, true}, {[]string{long}, 1, true},
		{make([]string, api.MaxInput+1), 0, false}, {[]string{"", long + "x"}, 0, false}, {nil, -1, false}, {nil, api.MaxFuel + 1, false},
	} {
		if got := rules.Allowed(row.input, row.fuel); got != row.want {
			t.Error(len(row.input), row.fuel, got)
		}
	}
}

// P45: builtins, and how many arguments they take.
func TestBuiltins(t *testing.T) {
	takes := map[string][]int{"len": {1}, "str": {1}, "push": {2}, "pop": {1}, "keys": {1}, "id": {1}, "range": {1}, "input": {0}, "print": {0, 1, 2, 3}, "collect": {1}}
	for _, name := range rules.Builtins() {
		for n := range 4 {
			if got := rules.Takes(name, n); got != slices.Contains(takes[name], n) {
				t.Error(name, n, got)
			}
		}
		delete(takes, name)
	}
	if len(takes) > 0 {
		t.Error("none of them:", takes)
	}
}

// P46: repr of what holds nothing else; P42: what is true.
func TestPlain(t *testing.T) {
	for _, row := range []struct {
		v    any
		repr string
		is   bool
	}{
		{nil, "None", false}, {false, "False", false}, {true, "True", true}, {int64(0), "0", false}, {int64(-5), "-5", true},
		{"", `""`, false}, {"a\n\xff", `"a\n\xff"`, true}, {[]any{}, "", true},
	} {
		if got := rules.Repr(row.v); got != row.repr {
			t.Error(row.v, got)
		}
		if got := rules.Truth(row.v); got != row.is {
			t.Error(row.v, got)
		}
	}
}

// P46: elements so far, with what is between them, are too long, or not; P45: what is printed.
func TestTexts(t *testing.T) {
	for _, row := range []struct{ last, asked int }{{1994, 3}, {1995, 3}, {1997, 3}, {1998, 2}} {
		asked := 0
		text, wrong := rules.Joined(3, func(n int) string {
			asked++
			return []string{"a", strings.Repeat("b", row.last), "c"}[n]
		})
		want := "a, " + strings.Repeat("b", row.last) + ", c"
		if ok := len(want) <= api.MaxLength; asked != row.asked || ok && (text != want || wrong != "") || !ok && (text != "" || wrong != "OverflowError") {
			t.Error(row, asked, len(text), wrong)
		}
	}
	asked := 0
	if text, wrong := rules.Joined(9, func(int) string { asked++; return strings.Repeat("x", 1000) }); text != "" || wrong != "OverflowError" || asked != 2 {
		t.Error(len(text), wrong, asked)
	}
	if text, wrong := rules.Joined(0, nil); text != "" || wrong != "" {
		t.Error(text, wrong)
	}
	if line, wrong := rules.Line([]string{"a", "", "b"}, api.MaxOutput-5); line != "a  b\n" || wrong != "" {
		t.Error(line, wrong)
	}
	if line, wrong := rules.Line([]string{"a", "", "b"}, api.MaxOutput-4); line != "" || wrong != "OverflowError" {
		t.Error(line, wrong)
	}
	if line, wrong := rules.Line(nil, 0); line != "\n" || wrong != "" {
		t.Error(line, wrong)
	}
}

// P41: too deep is told ahead of all else; what was found equal is asked again only where it is deeper.
func TestFound(t *testing.T) {
	var f rules.Found[[2]int]
	asked := 0
	ask := func(pair [2]int, deep int, equal bool) (bool, string) {
		return f.Equal(pair, deep, func() bool { asked++; return equal })
	}
	for _, row := range []struct {
		pair  [2]int
		deep  int
		equal bool
		want  bool
		wrong string
		asked int
	}{
		{[2]int{1, 2}, api.MaxNest + 1, true, false, "RecursionError", 0},
		{[2]int{1, 2}, 5, false, false, "", 1},
		{[2]int{1, 2}, 5, true, true, "", 2},
		{[2]int{1, 2}, 5, false, true, "", 2},
		{[2]int{1, 2}, 1, false, true, "", 2},
		{[2]int{2, 1}, 1, false, false, "", 3},
		{[2]int{1, 2}, 6, true, true, "", 4},
		{[2]int{1, 2}, 6, false, true, "", 4},
		{[2]int{1, 2}, api.MaxNest + 1, true, false, "RecursionError", 4},
	} {
		if got, wrong := ask(row.pair, row.deep, row.equal); got != row.want || wrong != row.wrong || asked != row.asked {
			t.Error(row, got, wrong, asked)
		}
	}
}
