package trace_test

import (
	"fmt"
	"reflect"
	"runtime/debug"
	"slices"
	"strconv"
	"strings"
	"sync"
	"testing"

	"nurserypy/api"
	"nurserypy/checks/made"
	"nurserypy/plain"
	"nurserypy/trace"
	"nurserypy/tree"
	"nurserypy/walk"
)

// covers fails unless Cover tells, by however many workers, what the traces of the runs do. It answers that.
func covers(t *testing.T, l []tree.Stmt, runs [][]string, fuel int) []bool {
	t.Helper()
	want := make([]bool, size(l))
	for _, run := range runs {
		events, _ := traced(t, l, run, fuel)
		for _, e := range events {
			want[e.Stmt] = true
		}
	}
	for workers := 1; workers <= api.Workers; workers++ {
		got, err := trace.Cover(l, runs, fuel, workers)
		if !slices.Equal(got, want) || err != nil {
			t.Fatalf("%d workers: %v, %v, want %v", workers, got, err, want)
		}
	}
	return want
}

const chooses = "x = input()\nif x == \"a\":\n pass\nelif x == \"b\":\n y = 1\n while y:\n  y = 0\nelse:\n x()\n pass\n"

// P131: which statements were begun in some run.
func TestCover(t *testing.T) {
	l := read(t, chooses)
	for _, c := range []struct {
		runs, want string
		fuel       int
	}{
		{"", "[false false false false false false false false false]", enough},
		{"a", "[true true true false false false false false false]", enough},
		{"b", "[true true false true true true true false false]", enough},
		{"c", "[true true false true false false false true false]", enough},
		{"a c", "[true true true true false false false true false]", enough},
		{"c b a b", "[true true true true true true true true false]", enough},
		{"b a", "[false false false false false false false false false]", 0},
		{"b a", "[true false false false false false false false false]", 1},
		{"b a", "[true true true true false false false false false]", 3},
		{"b", "[true true false true true true false false false]", 6},
		{"b", "[true true false true true true true false false]", 7},
	} {
		var runs [][]string
		for _, line := range strings.Fields(c.runs) {
			runs = append(runs, []string{line})
		}
		if got := fmt.Sprint(covers(t, l, runs, c.fuel)); got != c.want {
			t.Errorf("%q, %d: %s, want %s", c.runs, c.fuel, got, c.want)
		}
	}
	// A run without input raises at once; one that is tired, or raised, counts as any other.
	if got := covers(t, l, [][]string{nil, {}}, enough); !slices.Equal(got, append([]bool{true}, make([]bool, 8)...)) {
		t.Error(got)
	}
	if got := covers(t, nil, [][]string{{"a"}, nil}, enough); len(got) != 0 {
		t.Error(got)
	}
}

// P131: as many runs as there may be, each of which begins a statement that no other one does.
func TestMostRuns(t *testing.T) {
	var s strings.Builder
	var runs [][]string
	s.WriteString("x = input()\n")
	for n := range api.MaxRuns {
		s.WriteString("if x == \"" + strconv.Itoa(n) + "\":\n pass\n")
		runs = append(runs, []string{strconv.Itoa(n)})
	}
	l := read(t, s.String())
	if got := covers(t, l, runs, enough); slices.Contains(got, false) {
		t.Error(got)
	}
	for n := range runs {
		less := slices.Delete(slices.Clone(runs), n, n+1)
		if got, err := trace.Cover(l, less, enough, 1+n%api.Workers); err != nil || slices.Index(got, false) != 2*n+2 || slices.Contains(got[2*n+3:], false) {
			t.Errorf("without run %d: %v, %v", n, got, err)
		}
	}
}

// P131, P132: made-up programs, with made-up input.
func TestMadeUp(t *testing.T) {
	begun, passed := 0, 0
	for seed := range 60 {
		l := made.Program(seed)
		var runs [][]string
		for n := range seed % 6 {
			runs = append(runs, input()[n%5:])
		}
		for _, is := range covers(t, l, runs, 50+10*seed) {
			if is {
				begun++
			} else {
				passed++
			}
		}
	}
	if begun < 500 || passed < 500 {
		t.Errorf("%d were begun, %d were not", begun, passed)
	}
}

// coverFails fails unless Cover answers an error as wanted, with its place, and nothing else.
func coverFails(t *testing.T, want error, l []tree.Stmt, runs [][]string, fuel, workers int) {
	t.Helper()
	code, at := plain.Code(want)
	got, err := trace.Cover(l, runs, fuel, workers)
	if c, a := plain.Code(err); c != code || a != at || len(got) > 0 {
		t.Errorf("%d runs, fuel %d, %d workers: %v, %v at %d, want %v at %d", len(runs), fuel, workers, got, err, a, want, at)
	}
}

// P131, P3: errors, in their order.
func TestCoverErrors(t *testing.T) {
	good, many := read(t, "pass"), make([][]string, api.MaxRuns+1)
	wrong := read(t, "pass\nif 1:\n return")
	tooMuch, tooLong := make([]string, api.MaxInput+1), []string{strings.Repeat("x", api.MaxLength+1)}
	coverFails(t, api.ErrBound, good, many, 1, 1)
	coverFails(t, api.ErrBound, wrong, many, -1, 0)
	for _, workers := range []int{-1 << 63, -1, 0, api.Workers + 1, 1<<63 - 1} {
		coverFails(t, api.ErrShape, good, nil, 1, workers)
		coverFails(t, api.ErrShape, good, many[1:], 1, workers)
		coverFails(t, api.ErrShape, wrong, [][]string{tooMuch}, -1, workers)
	}
	for _, workers := range []int{1, 2, api.Workers} {
		coverFails(t, api.ErrBound, good, many[:1], -1, workers)
		coverFails(t, api.ErrBound, good, many[:2], api.MaxFuel+1, workers)
		coverFails(t, api.ErrBound, good, [][]string{tooMuch}, 1, workers)
		coverFails(t, api.ErrBound, good, [][]string{nil, {"a"}, tooLong, nil}, 1, workers)
		coverFails(t, api.ErrBound, good, append(slices.Clone(many[2:]), tooMuch), 1, workers)
		coverFails(t, &api.Fault{At: 2, Err: api.ErrName}, wrong, many[:1], 1, workers)
		coverFails(t, &api.Fault{At: 2, Err: api.ErrName}, wrong, [][]string{tooMuch, tooLong}, -1, workers)
		for _, l := range wrongTrees() {
			coverFails(t, api.ErrShape, l, many[:3], -1, workers)
		}
		if got, err := trace.Cover(good, many[1:], 1, workers); err != nil || !slices.Equal(got, []bool{true}) {
			t.Error(got, err)
		}
	}
}

// P131, P1: without runs there is no error of a run, whatever else is wrong; and it ends.
func TestNoRuns(t *testing.T) {
	for _, fuel := range []int{-1, 0, 1, api.MaxFuel + 1} {
		for _, s := range []string{"", "pass", "return\nif 1:\n pass\nelse:\n break", chooses} {
			l := read(t, s)
			if got, err := trace.Cover(l, nil, fuel, 3); err != nil || !slices.Equal(got, make([]bool, size(l))) {
				t.Errorf("%q: %v, %v", s, got, err)
			}
		}
		if got, err := trace.Cover(make([]tree.Stmt, 3), [][]string{}, fuel, 1); err != nil || !slices.Equal(got, make([]bool, 3)) {
			t.Error(got, err)
		}
	}
}

// P131, P3: without runs, however many statements there are: more than a program can have, too.
func TestNoRunsOfMany(t *testing.T) {
	body := make([]tree.Stmt, 3000)
	for among, l := range map[int][]tree.Stmt{
		api.MaxSource:     passes(api.MaxSource),
		api.MaxSource + 1: passes(api.MaxSource + 1),
		1000003:           passes(1000003),
		12001:             {{Kind: "try", Body: passes(api.MaxSource), Else: passes(api.MaxSource)}},
		100001:            deepTree(100000),
		1<<13 - 1:         wideTree(12),
		1<<21 - 1:         wideTree(20),
		6006:              {{Body: body}, {}, {Else: body}, {Kind: "if", Body: []tree.Stmt{{}}, Else: []tree.Stmt{{}}}},
		3000 * 3001:       slices.Repeat([]tree.Stmt{{Kind: "if", Body: body}}, 3000),
	} {
		for _, workers := range []int{1, 2, api.Workers} {
			got, err := trace.Cover(l, nil, 100, workers)
			if len(got) != among || err != nil || slices.Contains(got, true) {
				t.Errorf("%d statements, %d workers: %d, %v", among, workers, len(got), err)
			}
		}
	}
}

func passes(n int) []tree.Stmt { return slices.Repeat([]tree.Stmt{{Kind: "pass"}}, n) }

// P1: it ends where a tree has more statements than could be told, or is deeper than calls could be in each other.
func TestNoRunsEnds(t *testing.T) {
	for _, deep := range []int{26, 62, 63, 64, 200} {
		coverFails(t, api.ErrShape, wideTree(deep), nil, 1, 1)
	}
	if got, err := trace.Cover(wideTree(25), nil, 1, 1); len(got) != 1<<26-1 || err != nil {
		t.Error(len(got), err)
	}
	defer debug.SetMaxStack(debug.SetMaxStack(1 << 23))
	if got, err := trace.Cover(deepTree(200000), nil, 1, 1); len(got) != 200001 || err != nil {
		t.Error(len(got), err)
	}
}

// P2, P4: calls side by side do not touch each other, nor what they are given, nor what was answered.
func TestSideBySide(t *testing.T) {
	l, again := read(t, chooses), read(t, chooses)
	room := [][]string{{"a", "x"}, {"b", "x"}, {"c", "x"}, {"d", "x"}}
	runs := [][]string{room[0][:1], room[1][:1], room[2][:1]}
	want := covers(t, l, runs, enough)
	got := make([][]bool, 30)
	var all sync.WaitGroup
	for n := range got {
		all.Go(func() {
			first, _ := trace.Cover(l, runs, enough, 1+n%api.Workers)
			clear(first)
			got[n], _ = trace.Cover(l, runs, enough, 1+n%api.Workers)
		})
	}
	all.Wait()
	for _, is := range got {
		if !slices.Equal(is, want) {
			t.Error(is)
		}
	}
	if !reflect.DeepEqual(l, again) || fmt.Sprint(room) != "[[a x] [b x] [c x] [d x]]" {
		t.Error("something was changed")
	}
}

// P131: the longest runs that there are.
func TestLongest(t *testing.T) {
	l := read(t, "def f():\n while 1:\n  pass\nif input() == \"go\":\n f()\nelse:\n pass\n")
	runs := make([][]string, api.MaxRuns)
	for n := range runs {
		runs[n] = []string{"go"}
	}
	got, err := trace.Cover(l, runs, api.MaxFuel, api.Workers)
	if o, _ := walk.Run(l, runs[0], api.MaxFuel); o.Kind != "tired" || err != nil || !slices.Equal(got, []bool{true, true, true, true, true, false}) {
		t.Error(got, err, o)
	}
}
