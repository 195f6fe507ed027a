package trace

import (
	"sync"
	"testing"
	"time"

	"nurserypy/api"
)

// P131: each number is taken once, by no more workers at once than there are; and all have ended when it answers.
func TestEachOnce(t *testing.T) {
	for workers := 1; workers <= api.Workers; workers++ {
		for _, among := range []int{0, 1, workers, api.MaxRuns} {
			var lock sync.Mutex
			taken := make([]int, among)
			within, most := 0, 0
			sideBySide(among, workers, func(n int) {
				lock.Lock()
				taken[n]++
				within++
				most = max(most, within)
				lock.Unlock()
				time.Sleep(time.Microsecond)
				lock.Lock()
				within--
				lock.Unlock()
			})
			for n, times := range taken {
				if times != 1 {
					t.Errorf("%d workers: %d was taken %d times", workers, n, times)
				}
			}
			if within != 0 || most > workers {
				t.Errorf("%d workers: %d at once, %d still", workers, most, within)
			}
		}
	}
}

// P131: side by side: as many as there are workers wait for each other.
func TestAllAtOnce(t *testing.T) {
	for workers := 1; workers <= api.Workers; workers++ {
		var here sync.WaitGroup
		here.Add(workers)
		ended := make(chan bool)
		go func() {
			sideBySide(workers, workers, func(int) {
				here.Done()
				here.Wait()
			})
			close(ended)
		}()
		select {
		case <-ended:
		case <-time.After(20 * time.Second):
			t.Fatalf("%d workers do not work side by side", workers)
		}
	}
}
