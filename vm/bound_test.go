package vm_test

import (
	"errors"
	"math"
	"reflect"
	"strings"
	"sync"
	"testing"

	"nurserypy/api"
	"nurserypy/checks/made"
	"nurserypy/code"
	"nurserypy/gen"
	"nurserypy/heap"
	"nurserypy/plain"
	"nurserypy/scope"
	"nurserypy/tree"
	"nurserypy/vm"
)

// fails asks Run, and Play of a program that does nothing, for an error; or, where none is wanted, for none.
func fails(t *testing.T, want error, input []string, fuel int, s vm.Setting) {
	t.Helper()
	kind := "done"
	if want != nil {
		kind = ""
	}
	o, err := vm.Run(assembled("|halt"), input, fuel, s)
	if err != want || o != (api.Outcome{Kind: kind}) {
		t.Errorf("Run: %d lines, fuel %d, %v, %d forced: %v, %v, want %v", len(input), fuel, s.Config, len(s.Force), o, err, want)
	}
	o, err = vm.Play(nil, input, fuel, s)
	if err != want || o != (api.Outcome{Kind: kind}) {
		t.Errorf("Play: %d lines, fuel %d, %v, %d forced: %v, %v, want %v", len(input), fuel, s.Config, len(s.Force), o, err, want)
	}
}

// P120: ErrBound, on both sides of each bound.
func TestBounds(t *testing.T) {
	some := roomy(256)
	long := strings.Repeat("x", api.MaxLength)
	fails(t, nil, nil, 0, some)
	fails(t, nil, make([]string, api.MaxInput), api.MaxFuel, some)
	fails(t, api.ErrBound, make([]string, api.MaxInput+1), 0, some)
	fails(t, nil, []string{"", long}, 0, some)
	fails(t, api.ErrBound, []string{"", long + "x"}, 0, some)
	for _, fuel := range []int{-1, math.MinInt, api.MaxFuel + 1, math.MaxInt} {
		fails(t, api.ErrBound, nil, fuel, some)
	}
	for _, c := range []heap.Config{{Half: 1, Old: 1, Card: 1}, {Half: api.MaxWords, Old: api.MaxWords, Card: 1024, Tenure: 15}} {
		fails(t, nil, nil, 0, vm.Setting{Config: c})
	}
	for _, n := range []int{-1, 0, api.MaxWords + 1, math.MaxInt, math.MinInt} {
		fails(t, api.ErrBound, nil, 0, vm.Setting{Config: heap.Config{Half: n, Old: 1, Card: 1}})
		fails(t, api.ErrBound, nil, 0, vm.Setting{Config: heap.Config{Half: 1, Old: n, Card: 1}})
		fails(t, api.ErrBound, nil, 0, vm.Setting{Config: heap.Config{Half: 1, Old: 1, Card: n}})
	}
	fails(t, api.ErrBound, nil, 0, vm.Setting{Config: heap.Config{Half: 1, Old: 1, Card: 1025}})
	for _, n := range []int{-1, 16, math.MaxInt, math.MinInt} {
		fails(t, api.ErrBound, nil, 0, vm.Setting{Config: heap.Config{Half: 1, Old: 1, Card: 1, Tenure: n}})
	}
	some.Force = []vm.Force{{Step: -1}, {Step: math.MaxInt, Major: true}, {Step: math.MinInt}, {}, {}}
	fails(t, nil, nil, 0, some)
	some.Force = make([]vm.Force, 100)
	fails(t, nil, nil, 0, some)
	some.Force = make([]vm.Force, 101)
	fails(t, api.ErrBound, nil, 0, some)
	fails(t, api.ErrBound, nil, 0, vm.Setting{})
}

// P120: code.Verify's error, whatever else is wrong.
func TestVerified(t *testing.T) {
	for _, c := range []code.Code{
		{},
		assembled("|jump 1"),
		assembled("|return"),
		assembled("|halt", "f|pop; const None; return"),
		assembled("|halt", "f 2 1 0 0|const None; return"),
		{Funcs: []code.Func{{Ops: make([]code.Op, api.MaxCode+1)}}},
		{Funcs: make([]code.Func, 401)},
		{Funcs: []code.Func{{Ops: []code.Op{{Name: "halt"}}}}, Ints: make([]int64, 2001)},
	} {
		want := code.Verify(c)
		for _, s := range []vm.Setting{roomy(256), {}} {
			o, err := vm.Run(c, make([]string, 99), -1, s)
			if !reflect.DeepEqual(err, want) || want == nil || o != (api.Outcome{}) {
				t.Errorf("%s%v, %v, want %v", code.Text(c), o, err, want)
			}
		}
	}
}

// P121: gen.Compile's errors, whatever else is wrong.
func TestCompiled(t *testing.T) {
	var wide strings.Builder
	for range 402 {
		wide.WriteString("lambda: 0\n")
	}
	for _, l := range [][]tree.Stmt{
		{{Kind: "none"}},
		{{Kind: "expr"}},
		read(t, "break\n"),
		read(t, "pass\nif 1:\n return\n"),
		read(t, wide.String()),
		read(t, "["+strings.Repeat("0, ", 1000)+"0]\n"),
	} {
		_, want := gen.Compile(l)
		for _, s := range []vm.Setting{roomy(256), {}} {
			o, err := vm.Play(l, make([]string, 99), -1, s)
			if !reflect.DeepEqual(err, want) || want == nil || o != (api.Outcome{}) {
				t.Errorf("%v: %v, %v, want %v", l[0], o, err, want)
			}
		}
	}
	o, err := vm.Play(read(t, "pass\nif 1:\n return\n"), nil, 5, roomy(256))
	if n, at := plain.Code(err); n != 4 || at != 2 || !errors.Is(err, api.ErrName) || o != (api.Outcome{}) {
		t.Error(o, err)
	}
	if l := read(t, wide.String()); scope.Check(l) != nil {
		t.Error(scope.Check(l))
	}
}

// P2, P4: what is handed over is only read; runs side by side are the same.
func TestOnlyReads(t *testing.T) {
	type given struct {
		c     code.Code
		input []string
		s     vm.Setting
	}
	give := func(seed int) given {
		s := roomy(50 + seed)
		s.Force = []vm.Force{{Step: 2}, {Step: 1, Major: true}, {Step: 7}}
		return given{made.Code(seed), input(), s}
	}
	var wait sync.WaitGroup
	for seed := range 40 {
		all, apart := give(seed), give(seed)
		want, bad := vm.Run(apart.c, apart.input, 100, apart.s)
		for range 3 {
			wait.Go(func() {
				got, err := vm.Run(all.c, all.input, 100, all.s)
				if got != want || err != nil || bad != nil {
					t.Error(seed, got, want, err, bad)
				}
			})
		}
		wait.Wait()
		if !reflect.DeepEqual(all, apart) || !reflect.DeepEqual(all, give(seed)) {
			t.Error(seed, "has changed")
		}
		l, other := made.Program(seed), made.Program(seed)
		if _, err := vm.Play(l, all.input, 100, all.s); err != nil || !reflect.DeepEqual(l, other) {
			t.Error(seed, err, "a program has changed")
		}
	}
}

// P3: what lies behind the length of a list is not read.
func TestBehindLengths(t *testing.T) {
	lines := []string{"a", strings.Repeat("x", api.MaxLength+1)}
	s := roomy(256)
	s.Old = 1
	s.Force = []vm.Force{{Step: 9}, {Step: 1}}[:1]
	c := assembled("|list 0; name l; global print; step; global input; call 0; call 1; pop; step; global input; call 0; halt")
	c.Funcs = append(c.Funcs, code.Func{})[:1]
	c.Names = append(c.Names, "x")[:len(c.Names)]
	want := api.Outcome{Kind: "raised", Value: `"ValueError"`, Output: "a\n", Steps: 2}
	if o, err := vm.Run(c, lines[:1], 5, s); o != want || err != nil {
		t.Error(o, err)
	}
}
