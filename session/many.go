package session

import (
	"sync"

	"nurserypy/api"
	"nurserypy/tree"
	"nurserypy/vm"
)

// Job: a program that is run.
type Job struct {
	Text    string
	Input   []string
	Fuel    int
	Setting vm.Setting
}

// Many runs, side by side.
func Many(runs []Job, workers int) ([]api.Outcome, error) {
	if len(runs) > api.MaxRuns {
		return nil, api.ErrBound
	}
	if workers < 1 || workers > api.Workers {
		return nil, api.ErrShape
	}
	return sideBySide(len(runs), workers, func(n int) api.Outcome { return runs[n].outcome() }), nil
}

// outcome of a job; of one that has an error, that error.
func (j Job) outcome() api.Outcome {
	o, err := j.played()
	if err != nil {
		return api.Outcome{Kind: "error", Value: err.Error()}
	}
	return o
}

func (j Job) played() (api.Outcome, error) {
	l, err := tree.Read(j.Text)
	if err != nil {
		return api.Outcome{}, err
	}
	return vm.Play(l, j.Input, j.Fuel, j.Setting)
}

// An answer has the number of its run with it, for runs come back in any order.
type answer struct {
	number int
	api.Outcome
}

// sideBySide: the outcomes of the runs from 0 on. Whoever is free takes the next one; all workers are done when it answers.
func sideBySide(among, workers int, run func(int) api.Outcome) []api.Outcome {
	out := make([]api.Outcome, among)
	numbers, answers := make(chan int), make(chan answer)
	var working sync.WaitGroup
	for range workers {
		working.Add(1)
		go func() {
			defer working.Done()
			for n := range numbers {
				answers <- answer{n, run(n)}
			}
		}()
	}
	for next, back := 0, 0; back < among; {
		free := numbers
		if next == among {
			free = nil // nobody takes from it: there is nothing left to hand out
		}
		select {
		case free <- next:
			next++
		case a := <-answers:
			out[a.number] = a.Outcome
			back++
		}
	}
	close(numbers)
	working.Wait()
	return out
}
