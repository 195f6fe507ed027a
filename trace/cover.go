package trace

import (
	"sync"

	"nurserypy/api"
	"nurserypy/tree"
)

// Cover of statements by runs.
func Cover(l []tree.Stmt, runs [][]string, fuel int, workers int) ([]bool, error) {
	if len(runs) > api.MaxRuns {
		return nil, api.ErrBound
	}
	if workers < 1 || workers > api.Workers {
		return nil, api.ErrShape
	}
	counts, err := countsOf(l, runs, fuel, workers)
	if err != nil {
		return nil, err
	}
	among := statements(l)
	if among > mostTold { // no run would take it; where there are none, nobody else asks
		return nil, api.ErrShape
	}
	out := make([]bool, among)
	for _, times := range counts {
		for n := range times {
			out[n] = out[n] || times[n] > 0
		}
	}
	return out, nil
}

// countsOf: the Counts of each run; or the error of the first run that has one.
func countsOf(l []tree.Stmt, runs [][]string, fuel, workers int) ([][]int, error) {
	counts := make([][]int, len(runs))
	errs := make([]error, len(runs))
	sideBySide(len(runs), workers, func(n int) {
		counts[n], errs[n] = Counts(l, runs[n], fuel)
	})
	for _, err := range errs {
		if err != nil {
			return nil, err
		}
	}
	return counts, nil
}

// sideBySide does something with each number from 0 on. No two workers have the same one, and all are done when it answers.
func sideBySide(among, workers int, something func(int)) {
	numbers := make(chan int)
	var working sync.WaitGroup
	for range workers {
		working.Add(1)
		go func() {
			defer working.Done()
			for n := range numbers {
				something(n)
			}
		}()
	}
	for n := range among {
		numbers <- n
	}
	close(numbers)
	working.Wait()
}
