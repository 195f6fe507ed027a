package session

import (
	"strconv"
	"sync"
	"testing"
	"time"

	"nurserypy/api"
)

// P152: each run is done once, by no more workers at once than there are; its outcome stands at its number; and all have ended when it answers.
func TestEachOnce(t *testing.T) {
	for workers := 1; workers <= api.Workers; workers++ {
		for _, among := range []int{0, 1, workers, api.MaxRuns} {
			var lock sync.Mutex
			taken := make([]int, among)
			within, most := 0, 0
			out := sideBySide(among, workers, func(n int) api.Outcome {
				lock.Lock()
				taken[n]++
				within++
				most = max(most, within)
				lock.Unlock()
				time.Sleep(time.Duration(n%3) * time.Microsecond)
				lock.Lock()
				within--
				lock.Unlock()
				return api.Outcome{Kind: strconv.Itoa(n), Steps: n}
			})
			if len(out) != among || within != 0 || most > workers {
				t.Errorf("%d workers, %d runs: %d outcomes, %d at once, %d still", workers, among, len(out), most, within)
			}
			for n, o := range out {
				if taken[n] != 1 || o != (api.Outcome{Kind: strconv.Itoa(n), Steps: n}) {
					t.Errorf("%d workers: %d was taken %d times: %v", workers, n, taken[n], o)
				}
			}
		}
	}
}

// P152: side by side: as many as there are workers wait for each other.
func TestAllAtOnce(t *testing.T) {
	for workers := 1; workers <= api.Workers; workers++ {
		var here sync.WaitGroup
		here.Add(workers)
		ended := make(chan bool)
		go func() {
			sideBySide(workers, workers, func(int) api.Outcome {
				here.Done()
				here.Wait()
				return api.Outcome{}
			})
			close(ended)
		}()
		select {
		case <-ended:
		case <-time.After(20 * time.Second):
			t.Fatalf("%d workers do not work side by side", workers)
		}
	}
}

// P152: whoever is free takes the next run: one that takes long holds no other up, if there are two workers.
func TestNobodyWaits(t *testing.T) {
	others := make(chan bool, api.MaxRuns)
	ended := make(chan bool)
	go func() {
		sideBySide(api.MaxRuns, 2, func(n int) api.Outcome {
			if n == 0 {
				for range api.MaxRuns - 1 {
					<-others
				}
			} else {
				others <- true
			}
			return api.Outcome{}
		})
		close(ended)
	}()
	select {
	case <-ended:
	case <-time.After(20 * time.Second):
		t.Fatal("runs wait for one that they need not wait for")
	}
}
