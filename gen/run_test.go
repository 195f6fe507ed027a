package gen_test

import (
	"testing"

	"nurserypy/checks/machine"
	"nurserypy/checks/made"
	"nurserypy/code"
	"nurserypy/gen"
	"nurserypy/tree"
	"nurserypy/walk"
)

// agrees fails unless the code of a program does, with this fuel, what walk.Run tells of it. It answers how that ended, and with how many steps.
func agrees(t *testing.T, l []tree.Stmt, c code.Code, fuel int) (string, int) {
	t.Helper()
	input := []string{"one", "", "a b", "\xff\"\n"}
	want, err := walk.Run(l, input, fuel)
	if got := machine.Run(c, input, fuel); got != want || err != nil {
		s, _ := tree.Text(l)
		t.Fatalf("fuel %d:\n%s%v, want %v, %v\n%s", fuel, s, got, want, err, code.Text(c))
	}
	return want.Kind, want.Steps
}

// P62: programs that lead through all statements and terms; with all fuel there is, and with each that is less. So each step is where P40 has it.
func TestDoes(t *testing.T) {
	for _, s := range made.Written() {
		l := read(t, s)
		c := compiled(t, l)
		_, steps := agrees(t, l, c, 1000)
		for less := range steps + 1 {
			agrees(t, l, c, less)
		}
	}
}

// P62: the same of made-up programs, with much fuel and with less.
func TestMadeUp(t *testing.T) {
	kinds := map[string]int{}
	for seed := range 800 {
		l := made.Program(seed)
		c := compiled(t, l)
		for _, fuel := range []int{2000, seed % 97} {
			kind, _ := agrees(t, l, c, fuel)
			kinds[kind]++
		}
		shaped(t, l, c)
		if got, err := gen.Names(l); err != nil || !same(got, globals(t, l)) {
			s, _ := tree.Text(l)
			t.Fatalf("%s%v, %v, want %v", s, got, err, globals(t, l))
		}
	}
	for _, k := range []string{"done", "raised", "tired"} {
		if kinds[k] < 50 {
			t.Errorf("just %d were %s", kinds[k], k)
		}
	}
}
