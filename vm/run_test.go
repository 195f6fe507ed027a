package vm_test

import (
	"strconv"
	"strings"
	"testing"

	"nurserypy/api"
	"nurserypy/vm"
)

// P120, P50: each op that works out a value.
func TestValues(t *testing.T) {
	for _, row := range [][2]string{
		{"const None", "None"},
		{"const False", "False"},
		{"const True", "True"},
		{"int -9223372036854775808", "-9223372036854775808"},
		{"int 9223372036854775807", "9223372036854775807"},
		{"int 2305843009213693951", "2305843009213693951"},
		{"int 2305843009213693952", "2305843009213693952"},
		{"int -2305843009213693952", "-2305843009213693952"},
		{"int -2305843009213693953", "-2305843009213693953"},
		{"int 4294967296", "4294967296"},
		{"str abc", "abc"},
		{"int 5; neg", "-5"},
		{"int 0; not", "True"},
		{"int 5; not", "False"},
		{"int 5; int 3; add", "8"},
		{"int 5; int 3; sub", "2"},
		{"int 5; int 3; mul", "15"},
		{"int -7; int 2; div", "-4"},
		{"int -7; int 2; mod", "1"},
		{"int 7; int -2; mod", "-1"},
		{"int 5; int 3; eq", "False"},
		{"int 5; int 3; ne", "True"},
		{"int 5; int 3; lt", "False"},
		{"int 5; int 5; le", "True"},
		{"int 5; int 3; gt", "True"},
		{"int 3; int 5; ge", "False"},
		{"int 5; int 5; is", "True"},
		{"list 0; list 0; is", "False"},
		{"list 0; dup; is", "True"},
		{"list 0; list 0; eq", "True"},
		{"int 5; int 4; int 5; list 2; in", "True"},
		{"str abc; int 1; index", "b"},
		{"str ab; str cd; add", "abcd"},
		{"list 0", "[]"},
		{"int 1; int 2; int 3; list 3", "[1, 2, 3]"},
		{"dict 0", "{}"},
		{"int 1; int 2; int 3; int 4; int 1; int 5; dict 3", "{1: 5, 3: 4}"},
		{"int 1; dup; list 2", "[1, 1]"},
		{"int 1; int 2; pop", "1"},
		{"global str; int 5; call 1; dup; add", "55"},
		{"global input; call 0", "line"},
		{"global len", "<builtin len>"},
		{"closure 1", "<function f>"},
		{"closure 1; int 5; call 1", "[5, 5]"},
		{"int 1; name x; global x; int 2; name x; global x; list 2", "[1, 2]"},
		{"int 1; name len; global len", "1"},
	} {
		is(t, row[0], row[1], "f 1 2 0 0|load 0; store 1; load 0; load 1; list 2; return")
	}
}

// P120: ints of all sizes, in slots and in objects.
func TestInts(t *testing.T) {
	const great, less = "4611686018427387904", "-4611686018427387905"
	for _, row := range [][2]string{
		{"int " + great + "; dup; eq", "True"},
		{"int " + great + "; int " + great + "; is", "True"},
		{"int " + great + "; int " + less + "; eq", "False"},
		{"int " + great + "; int 1073741824; eq", "False"},
		{"int " + great + "; const None; eq", "False"},
		{"int " + great + "; list 1; int 0; index; int " + great + "; eq", "True"},
		{"int " + great + "; int " + great + "; list 1; int 0; index; is", "True"},
		{"int " + great + "; int " + great + "; list 1; in", "True"},
		{"int " + great + "; list 1; int " + great + "; list 1; eq", "True"},
		{"int " + great + "; int 7; dict 1; int " + great + "; index", "7"},
		{"int " + great + "; int " + less + "; dict 1; int " + great + "; index", less},
		{"int " + great + "; int 7; dict 1; int " + less + "; index", "KeyError"},
		{"int " + great + "; list 1; int 0; index; int 7; dict 1; int " + great + "; index", "7"},
		{"int " + great + "; int 7; dict 1; int " + great + "; list 1; int 0; index; index", "7"},
		{"int " + great + "; neg; neg", great},
		{"int " + great + "; not", "False"},
		{"int " + great + "; int " + great + "; sub", "0"},
		{"int " + great + "; int 1; sub; int " + great + "; lt", "True"},
		{"int " + great + "; dup; add", "OverflowError"},
		{"int " + less + "; name x; global x; global x; list 2", "[" + less + ", " + less + "]"},
		{"str abc; int " + great + "; index", "IndexError"},
		{"closure 1; int " + great + "; call 1", "[" + great + ", " + great + ", " + great + "]"},
	} {
		is(t, row[0], row[1],
			"f 1 2 1 0|load 0; store 1; load 1; fill 0; closure 2; take 0; call 0; cell 0; load 1; list 3; return",
			"g 0 0 0 1|cell 0; return")
	}
}

// P120: what goes wrong, and that a try goes on with its name.
func TestFails(t *testing.T) {
	for _, row := range [][2]string{
		{"global x", "NameError"},
		{"closure 1; call 0", "NameError"},
		{"closure 2; call 0", "NameError"},
		{"closure 3; call 0", "NameError"},
		{"closure 1; int 1; call 1", "TypeError"},
		{"closure 4; call 0", "TypeError"},
		{"int 1; call 0", "TypeError"},
		{"global len; call 0", "TypeError"},
		{"int 1; str a; add", "TypeError"},
		{"list 0; int 0; index", "IndexError"},
		{"dict 0; int 0; index", "KeyError"},
		{"int 1; int 0; div", "ZeroDivisionError"},
		{"int 9223372036854775807; int 1; add", "OverflowError"},
		{"global input; call 0; pop; global input; call 0", "ValueError"},
		{"closure 5; call 0", "RecursionError"},
		{"list 0; list 0; int 1; dict 1; add", "TypeError"},
		{"int 5; iter", "TypeError"},
		{"str " + strings.Repeat("a", api.MaxLength+1), "OverflowError"},
	} {
		funcs := []string{
			"local 0 1 0 0|load 0; return",
			"cell 0 0 1 0|cell 0; return",
			"free 0 0 1 0|closure 6; take 0; call 0; return",
			"one 1 1 0 0|load 0; return",
			"deep 0 0 0 0|closure 5; call 0; return",
			"in 0 0 0 1|cell 0; return",
		}
		is(t, row[0], row[1], funcs...)
		does(t, "done||7 "+row[1]+" 8\n", append([]string{"|global print; int 7; try caught; " + row[0] + "; raise; caught: int 8; call 3; pop; halt"}, funcs...)...)
	}
	is(t, "str "+strings.Repeat("a", api.MaxLength), strings.Repeat("a", api.MaxLength))
}

// P50: put and del.
func TestChanges(t *testing.T) {
	does(t, "done||[1, 9] {1: 9, 2: 4} [9] {2: 4}\n", `|int 1; int 2; list 2; name l; int 1; int 2; dict 1; name d;
		global l; int -1; int 9; put; global d; int 2; int 4; put; global d; int 1; int 9; put;
		global print; global str; global l; call 1; global str; global d; call 1;
		global l; int 0; del; global d; int 1; del; global l; global d; call 4; pop; halt`)
	for ops, want := range map[string]string{
		"list 0; int 0; int 1; put":        "IndexError",
		"list 0; str a; int 1; put":        "TypeError",
		"dict 0; list 0; int 1; put":       "TypeError",
		"str a; int 0; str b; put":         "TypeError",
		"dict 0; iter; int 1; int 1; put":  "TypeError",
		"list 0; int 0; del":               "IndexError",
		"dict 0; int 0; del":               "KeyError",
		"dict 0; list 0; del":              "TypeError",
		"str a; int 0; del":                "TypeError",
		"dict 0; dict 0; iter; del":        "TypeError",
		"list 0; iter; int 0; del":         "TypeError",
		"closure 0; const None; del":       "TypeError",
		"const None; const None; del":      "TypeError",
		"global len; int 0; int 1; put":    "TypeError",
		"int 1; int 0; int 1; put":         "TypeError",
		"dict 0; closure 0; const 0; put":  "TypeError",
		"dict 0; global len; const 0; put": "TypeError",
	} {
		does(t, "raised|\""+want+"\"|", "|"+ops+"; halt")
	}
}

// P50: where it goes on.
func TestFlow(t *testing.T) {
	for _, row := range [][2]string{
		{"|jump over; halt; over: int 5; raise", "raised|5|"},
		{"|const False; unless over; halt; over: int 5; raise", "raised|5|"},
		{"|const True; unless over; halt; over: int 5; raise", "done||"},
		{"|str ab; iter; top: next out; global print; str -; call 1; pop; raise; out: halt", "raised|\"a\"|-\n"},
		{"|str ab; iter; top: next out; name x; global print; global x; call 1; pop; jump top; out: int 5; raise", "raised|5|a\nb\n"},
		{"|list 0; iter; next out; raise; out: int 5; raise", "raised|5|"},
		{"|try caught; int 1; int 2; raise; caught: list 1; raise", "raised|[2]|"},
		{"|int 8; try caught; int 1; int 2; raise; caught: list 2; raise", "raised|[8, 2]|"},
		{"|try caught; end; int 1; raise; caught: list 1; raise", "raised|1|"},
		{"|try caught; int 1; try inner; int 2; raise; inner: list 1; raise; caught: list 1; raise", "raised|[[2]]|"},
		{"|try caught; int 1; try inner; end; int 2; raise; inner: list 1; raise; caught: list 1; raise", "raised|[2]|"},
		{"|try caught; int 1; try inner; int 2; int 0; div; raise; inner: list 1; raise; caught: list 1; raise", "raised|[[\"ZeroDivisionError\"]]|"},
		{"|int 1; int 2; try caught; int 3; halt; caught: halt", "done||"},
		{"|step; step; int 5; raise", "raised|5|"},
	} {
		does(t, row[1], row[0])
	}
}

// P50: what is raised in a call is caught around it; tries that are open go with a return.
func TestThroughCalls(t *testing.T) {
	does(t, "done||[7, 5]\n", "|global print; int 7; try caught; int 1; closure 1; call 0; raise; caught: list 2; call 1; pop; halt",
		"f 0 3 0 0|int 1; int 2; closure 2; call 0; return",
		"g 0 0 3 0|int 1; int 5; raise")
	does(t, "raised|9|", "|try caught; closure 1; call 0; end; raise; caught: list 1; raise",
		"f 0 0 0 0|try caught; int 9; return; caught: list 1; raise")
	does(t, "done||[9, 6]\n", "|global print; closure 1; int 6; call 1; call 1; pop; halt",
		"f 1 1 0 0|closure 2; call 0; load 0; list 2; return",
		"g 0 0 0 0|int 1; int 2; int 3; try caught; int 4; int 9; return; caught: list 1; return")
}

// P50: names: locals, cells, frees; each call has its own.
func TestNames(t *testing.T) {
	// Two functions of one call have a cell in common, two calls have not.
	does(t, "done||1 2 3 1 [5, 5] [6, 5]\n", `|closure 1; int 0; call 1; name a; closure 1; int 0; call 1; name b;
		global print; global a; call 0; global a; call 0; global a; call 0; global b; call 0;
		closure 3; int 5; call 1; closure 3; int 6; call 1; call 6; pop; halt`,
		"counter 1 1 1 0|load 0; fill 0; closure 2; take 0; return",
		"up 0 0 0 1|cell 0; int 1; add; fill 0; cell 0; return",
		"two 1 1 2 0|int 5; fill 1; closure 4; take 0; take 1; load 0; fill 0; call 0; return",
		"both 0 0 0 2|cell 0; cell 1; list 2; return")
	// A cell that has no value when it is taken may get one from either side, and is filled anew.
	does(t, "done||[1, 2, 2]\n", "|global print; closure 1; call 0; call 1; pop; halt",
		"f 0 2 1 0|closure 2; take 0; store 0; closure 3; take 0; store 1; int 1; fill 0; load 0; call 0; load 1; call 0; pop; load 0; call 0; cell 0; list 3; return",
		"get 0 0 0 1|cell 0; return",
		"set 0 0 0 1|int 2; fill 0; const None; return")
	does(t, "done||[3, 3]\n", "|global print; closure 1; call 0; call 1; pop; halt",
		"f 0 0 1 0|closure 2; take 0; call 0; pop; cell 0; cell 0; list 2; return",
		"set 0 0 1 1|int 4; fill 0; int 3; fill 1; const None; return")
	// What is free may be handed on.
	does(t, "done||8\n", "|global print; closure 1; int 8; call 1; call 0; call 0; call 1; pop; halt",
		"f 1 1 1 0|load 0; fill 0; closure 2; take 0; return",
		"g 0 0 1 1|closure 3; take 1; return",
		"h 0 0 0 1|cell 0; return")
	// A name that stands twice in Names is one.
	does(t, "done||5 5\n", "|int 5; name x; global print; global x; global x; call 2; pop; halt")
	// Each call begins with its other locals, and its cells, empty.
	does(t, "done||NameError NameError\n", "|global print; closure 1; call 0; pop; closure 1; call 0; closure 2; call 0; pop; closure 2; call 0; call 2; pop; halt",
		"f 0 1 0 0|try caught; load 0; return; caught: int 1; store 0; return",
		"g 0 0 1 0|try caught; cell 0; return; caught: int 1; fill 0; return")
}

// The program itself may be called: it halts all. Names of Funcs may be any, also empty, or too long to be told.
func TestProgramCalled(t *testing.T) {
	does(t, "done||again\n", "|try first; global x; pop; end; global print; str again; call 1; pop; halt; first: name x; closure 0; call 0; raise")
	does(t, "raised|\"RecursionError\"|", "p|closure 0; call 0; raise")
	is(t, "closure 0", "<function >")
	long := strings.Repeat("n", api.MaxLength-len("<function >"))
	is(t, "closure 1", "<function "+long+">", long+"|int 1; raise")
	is(t, "closure 1", "OverflowError", long+"n|int 1; raise")
}

// The greatest frames that there can be, as many as there can be.
func TestGreatestFrames(t *testing.T) {
	takes := func(from int) string {
		var out strings.Builder
		for n := range 400 {
			out.WriteString("; take " + strconv.Itoa(from+n))
		}
		return out.String()
	}
	does(t, "raised|\"RecursionError\"|", "|"+strings.Repeat("const None; ", 999)+"closure 1; call 0; raise",
		"f 0 400 400 0|int 4611686018427387904; fill 399; closure 2"+takes(0)+"; call 0; return",
		"g 0 400 400 400|cell 799; store 399; "+strings.Repeat("load 399; ", 999)+"closure 2"+takes(400)+"; call 0; return")
}

// P120: what iter makes.
func TestInside(t *testing.T) {
	for _, row := range [][2]string{
		{"str ab; iter", "<inside>"},
		{"list 0; iter; list 1", "[<inside>]"},
		{"global str; dict 0; iter; call 1", "<inside>"},
		{"list 0; iter; not", "False"},
		{"list 0; iter; dup; eq", "True"},
		{"list 0; iter; dup; ne", "False"},
		{"list 0; iter; dup; is", "True"},
		{"list 0; dup; iter; eq", "False"},
		{"list 0; name l; global l; iter; global l; iter; eq", "False"},
		{"list 0; name l; global l; iter; global l; iter; is", "False"},
		{"list 0; iter; name x; global x; list 1; global x; list 1; eq", "True"},
		{"list 0; iter; name x; global x; global x; list 1; in", "True"},
		{"list 0; iter; list 0; iter; list 1; in", "False"},
		{"list 0; iter; dup; lt", "TypeError"},
		{"list 0; iter; dup; add", "TypeError"},
		{"list 0; iter; neg", "TypeError"},
		{"list 0; iter; iter", "TypeError"},
		{"list 0; iter; call 0", "TypeError"},
		{"list 0; iter; int 0; index", "TypeError"},
		{"list 0; iter; int 1; dict 1", "TypeError"},
		{"dict 0; list 0; iter; index", "TypeError"},
		{"int 1; list 0; iter; in", "TypeError"},
		{"list 0; iter; str a; in", "TypeError"},
		{"list 0; iter; dict 0; in", "TypeError"},
		{"global len; list 0; iter; call 1", "TypeError"},
		{"global id; list 0; iter; call 1", "TypeError"},
		{"global push; list 0; iter; int 1; call 2", "TypeError"},
		{"global keys; dict 0; iter; call 1", "TypeError"},
		{"const None; iter", "TypeError"},
		{"const True; iter", "TypeError"},
		{"global len; iter", "TypeError"},
		{"closure 0; iter", "TypeError"},
	} {
		is(t, row[0], row[1])
	}
	does(t, "raised|<inside>|", "|list 0; iter; raise")
}

// P120: next goes on where it was, whoever asks; of what is no inside it raises TypeError.
func TestNext(t *testing.T) {
	for _, ops := range []string{"list 0", "str a", "dict 0", "const None", "int 1", "global len", "closure 0"} {
		does(t, "raised|\"TypeError\"|", "|"+ops+"; next out; halt; out: halt")
	}
	for _, row := range [][2]string{
		// Two names of the same one.
		{`|str abc; iter; name i; global i; next out; name x; pop; global i; next out; name y; pop; global i; next out; name z; pop;
			global print; global x; global y; global z; call 3; pop; halt; out: halt`, "a b c"},
		// The end is told again, as long as there is no more.
		{`|list 0; name l; global l; iter; name i; global i; next on; halt; on: global i; next go; halt;
			go: global push; global l; int 7; call 2; pop; global i; next out; name x; pop; global print; global x; call 1; pop; halt; out: halt`, "7"},
		// A dict's keys are those of the beginning.
		{`|int 1; int 0; int 2; int 0; dict 2; name d; global d; iter; name i;
			global d; int 1; del; global d; int 3; int 0; put; global d; int 2; del;
			global i; next out; name x; pop; global i; next out; name y; pop; global i; next on; halt; out: halt;
			on: global print; global x; global y; global d; call 3; pop; halt`, "1 2 {3: 0}"},
		// A str's elements are its bytes.
		{`|str ` + "\xc3\xa4" + `; iter; name i; global i; next out; name x; pop; global i; next out; name y; pop;
			global print; global x; global y; list 2; call 1; pop; halt; out: halt`, `["\xc3", "\xa4"]`},
	} {
		does(t, "done||"+row[1]+"\n", row[0])
	}
}

// P120: steps, and fuel.
func TestSteps(t *testing.T) {
	c := assembled("|step; closure 1; step; call 0; step; halt", "f|step; int 1; return")
	for fuel, want := range []string{"tired 0", "tired 1", "tired 2", "tired 3", "done 4", "done 4"} {
		o, err := vm.Run(c, nil, fuel, roomy(256))
		if kind, steps, _ := strings.Cut(want, " "); o != (api.Outcome{Kind: kind, Steps: int(steps[0] - '0')}) || err != nil {
			t.Error(fuel, o, err)
		}
	}
	loop := assembled("|top: step; global print; int 1; call 1; pop; jump top")
	for _, fuel := range []int{0, 1, 10, 1000} {
		o, err := vm.Run(loop, nil, fuel, roomy(256))
		if o.Kind != "tired" || o.Steps != fuel || o.Output != strings.Repeat("1\n", fuel) || err != nil {
			t.Error(fuel, o, err)
		}
	}
}

// idle: ops of which just so many are done, and no step: all but the last ones, which are given.
func idle(ops int, last string) string {
	const each, rounds = 3 + 2*48, 1000
	text := "|global range; int 1000; call 1; iter; top: next out; pop" + strings.Repeat("; const None; pop", 48) + "; jump top; out: "
	rest := ops - (4 + each*rounds + 1) - strings.Count(last, ";") - 1
	for range rest / 2 {
		text += "const None; pop; "
	}
	if rest%2 > 0 {
		text += "jump on; on: "
	}
	return text + last
}

// P120: code that does 100000 ops without a step is tired.
func TestIdle(t *testing.T) {
	const most = 100000
	for _, row := range []struct {
		code, want string
	}{
		{idle(most-1, "halt"), "done||"},
		{idle(most, "halt"), "tired||"},
		{idle(most-1, "int 1; raise"), "raised|1|"},
		{idle(most, "int 1; raise"), "tired||"},
		{idle(most-1, "global print; call 0; pop; halt"), "done||\n"},
		{idle(most, "global print; call 0; pop; halt"), "tired||\n"},
		{idle(most+2, "global print; call 0; pop; halt"), "tired||\n"},
		{idle(most+3, "global print; call 0; pop; halt"), "tired||"},
		{idle(most+1, "step; halt"), "done||"},
		{idle(most+2, "step; halt"), "tired||"},
		{"|jump 0", "tired||"},
		{"|top: try top2; int 1; raise; top2: pop; jump top", "tired||"},
	} {
		o, err := vm.Run(assembled(row.code), nil, 5, roomy(3000))
		if tell(o) != row.want || err != nil {
			t.Errorf("%.60q: %v, %v, want %q", row.code, o, err, row.want)
		}
	}
	// An op that is not done, since the heap is full, is none of them.
	s := roomy(100)
	s.Old = 1500
	if o, err := vm.Run(assembled(idle(most+1, "global range; int 2000; call 1; halt")), nil, 5, s); tell(o) != "full||" || err != nil {
		t.Error(o, err)
	}
	// Those of functions count as well, and so does take.
	for ops, want := range map[int]string{most - 1: "done", most: "tired"} {
		c := assembled("|closure 1; call 0; pop; halt", "f 0 0 1 0"+idle(ops-4, "closure 2; take 0; take 0; pop; const None; return"), "g 0 0 0 2|cell 0; return")
		if o, err := vm.Run(c, nil, 5, roomy(3000)); o.Kind != want || err != nil {
			t.Error(ops, o, err)
		}
	}
}
