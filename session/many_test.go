package session_test

import (
	"slices"
	"strings"
	"sync"
	"testing"

	"nurserypy/api"
	"nurserypy/checks/made"
	"nurserypy/session"
	"nurserypy/tree"
	"nurserypy/vm"
)

// jobs of all kinds, with what becomes of them.
func jobs() ([]session.Job, []api.Outcome) {
	var runs []session.Job
	var want []api.Outcome
	add := func(text string, o api.Outcome, change func(*session.Job)) {
		j := session.Job{Text: text, Input: []string{"a", "b"}, Fuel: 100, Setting: roomy()}
		if change != nil {
			change(&j)
		}
		runs = append(runs, j)
		want = append(want, o)
	}
	failed := func(err error) api.Outcome { return api.Outcome{Kind: "error", Value: err.Error()} }
	add("", api.Outcome{Kind: "done"}, nil)
	add("print(input(), input())", api.Outcome{Kind: "done", Output: "a b\n", Steps: 1}, nil)
	add("print(1)\nprint(input())", api.Outcome{Kind: "raised", Value: "\"ValueError\"", Output: "1\n", Steps: 2}, func(j *session.Job) { j.Input = nil })
	add("raise [None]", api.Outcome{Kind: "raised", Value: "[None]", Steps: 1}, nil)
	add("print(1)\nprint(2)", api.Outcome{Kind: "tired", Output: "1\n", Steps: 1}, func(j *session.Job) { j.Fuel = 1 })
	add("pass", api.Outcome{Kind: "tired"}, func(j *session.Job) { j.Fuel = 0 })
	add("print(3)\nrange(2000)", api.Outcome{Kind: "full", Output: "3\n", Steps: 2}, func(j *session.Job) { j.Setting.Old = 1000 })
	add("print(\"", failed(api.ErrText), nil)
	add("if 1:\n print(1)\n  print(2)", failed(api.ErrText), nil)
	add("break", failed(api.ErrName), nil)
	add(strings.Repeat("#", api.MaxSource+1), failed(api.ErrBound), nil)
	add(strings.Repeat("[", 13)+strings.Repeat("]", 13), failed(api.ErrBound), nil)
	add("a="+strings.Repeat("1+", 2000)+"1", failed(api.ErrShape), nil)
	add(strings.Repeat("lambda: 0\n", 400), failed(api.ErrBound), nil)
	add("pass", failed(api.ErrBound), func(j *session.Job) { j.Fuel = -1 })
	add("pass", failed(api.ErrBound), func(j *session.Job) { j.Fuel = api.MaxFuel + 1 })
	add("pass", failed(api.ErrBound), func(j *session.Job) { j.Setting = vm.Setting{} })
	add("pass", failed(api.ErrBound), func(j *session.Job) { j.Setting.Force = make([]vm.Force, 101) })
	add("pass", failed(api.ErrBound), func(j *session.Job) { j.Input = make([]string, api.MaxInput+1) })
	add("pass", failed(api.ErrBound), func(j *session.Job) { j.Input = []string{strings.Repeat("a", api.MaxLength+1)} })
	add("(", failed(api.ErrText), func(j *session.Job) { j.Fuel = -1 })
	add("return", failed(api.ErrName), func(j *session.Job) { j.Setting = vm.Setting{} })
	return runs, want
}

// P152, P153: what becomes of each run, by however many workers.
func TestManyKinds(t *testing.T) {
	runs, want := jobs()
	for workers := 1; workers <= api.Workers; workers++ {
		got, err := session.Many(runs, workers)
		if err != nil || !slices.Equal(got, want) {
			t.Errorf("%d workers: %v, %v", workers, got, err)
		}
	}
}

// P152: how many runs and workers there may be; too many runs are told ahead of workers that are none.
func TestManyBounds(t *testing.T) {
	runs := make([]session.Job, api.MaxRuns+1)
	for i := range runs {
		runs[i] = session.Job{Text: "print(input())", Input: []string{strings.Repeat("x", i)}, Fuel: 1, Setting: roomy()}
	}
	for _, c := range []struct {
		among, workers int
		err            error
	}{{0, 1, nil}, {0, 16, nil}, {1, 16, nil}, {40, 1, nil}, {40, 16, nil}, {41, 1, api.ErrBound}, {41, 0, api.ErrBound}, {41, 17, api.ErrBound}, {40, 0, api.ErrShape}, {0, 0, api.ErrShape}, {0, 17, api.ErrShape}, {1, -1, api.ErrShape}, {1, -1 << 63, api.ErrShape}, {1, 1<<63 - 1, api.ErrShape}} {
		got, err := session.Many(runs[:c.among], c.workers)
		if err != c.err || err != nil && len(got) != 0 || err == nil && len(got) != c.among {
			t.Errorf("%d runs, %d workers: %v, %v", c.among, c.workers, got, err)
		}
		for i, o := range got {
			if o != (api.Outcome{Kind: "done", Output: strings.Repeat("x", i) + "\n", Steps: 1}) {
				t.Errorf("%d runs, %d workers: %d: %v", c.among, c.workers, i, o)
			}
		}
	}
	if got, err := session.Many(nil, 3); len(got) != 0 || err != nil {
		t.Error(got, err)
	}
}

// P152, P153: each is what it is by itself: of programs that are made up, with settings of all sizes.
func TestManyMadeUp(t *testing.T) {
	for round := range 6 {
		var runs []session.Job
		var want []api.Outcome
		for i := range api.MaxRuns {
			seed := round*api.MaxRuns + i
			text, err := tree.Text(made.Program(seed))
			if err != nil {
				t.Fatal(seed, err)
			}
			j := session.Job{Text: text, Input: []string{"a", "1"}, Fuel: 50 << (seed % 6), Setting: roomy()}
			j.Setting.Half, j.Setting.Old = 16<<(seed%7), 32<<(seed%12)
			runs = append(runs, j)
			o, err := played(j)
			if err != nil {
				o = api.Outcome{Kind: "error", Value: err.Error()}
			}
			want = append(want, o)
		}
		for _, workers := range []int{1, 2, 7, api.Workers} {
			got, err := session.Many(runs, workers)
			if err != nil || !slices.Equal(got, want) {
				t.Errorf("round %d, %d workers: %v", round, workers, err)
			}
		}
	}
}

func played(j session.Job) (api.Outcome, error) {
	l, err := tree.Read(j.Text)
	if err != nil {
		return api.Outcome{}, err
	}
	return vm.Play(l, j.Input, j.Fuel, j.Setting)
}

// P2, P4: jobs are only read, what lies behind the lengths of their lists is not even that; so many calls with the same ones may work side by side, and what they answer is nobody else's.
func TestManyOnlyReads(t *testing.T) {
	runs, want := jobs()
	for i := range runs {
		runs[i].Input = append(slices.Clone(runs[i].Input), "behind")[:len(runs[i].Input)]
		runs[i].Setting.Force = append(slices.Clone(runs[i].Setting.Force), vm.Force{Step: 1 << 40})[:len(runs[i].Setting.Force)]
	}
	before := slices.Clone(runs)
	for i := range before {
		before[i].Input = slices.Clone(runs[i].Input)
		before[i].Setting.Force = slices.Clone(runs[i].Setting.Force)
	}
	answers := make([][]api.Outcome, 6)
	var calling sync.WaitGroup
	for i := range answers {
		calling.Go(func() {
			got, err := session.Many(runs[:len(runs):len(runs)], 1+i)
			if err != nil || !slices.Equal(got, want) {
				t.Error(got, err)
			}
			answers[i] = got
			clear(got)
		})
	}
	calling.Wait()
	for i := range runs {
		r, b := runs[i], before[i]
		if r.Text != b.Text || r.Fuel != b.Fuel || !slices.Equal(r.Input, b.Input) || !slices.Equal(r.Setting.Force, b.Setting.Force) || r.Setting.Config != b.Setting.Config {
			t.Errorf("%d: %v was %v", i, r, b)
		}
		if r.Input[:len(r.Input)+1][len(r.Input)] != "behind" {
			t.Errorf("%d: written behind its input", i)
		}
	}
	if again, err := session.Many(runs, 3); err != nil || !slices.Equal(again, want) {
		t.Error(again, err)
	}
}
