package crew

import (
	"slices"
	"sync"
	"sync/atomic"
	"testing"

	"tumble/api"
)

// byTurns are workers as they are without picks.
func byTurns(workers int) func(i int) int {
	return func(i int) int { return i % workers }
}

// TestP26_2Together: workers are at their islands at the same time: each one waits here until all of them are.
func TestP26_2Together(t *testing.T) {
	for workers := 1; workers <= 16; workers++ {
		var here sync.WaitGroup
		here.Add(workers)
		solved, e := share(workers, workers, byTurns(workers), func(int) api.Errno {
			here.Done()
			here.Wait()
			return api.OK
		})
		if e != api.OK || !slices.Equal(solved, slices.Repeat([]int{1}, workers)) {
			t.Errorf("%d workers solved %v, and tell %d", workers, solved, e)
		}
	}
}

// TestP26_2Once: each island is solved once, one after another by its own worker.
func TestP26_2Once(t *testing.T) {
	const n = 1000
	for _, workers := range []int{1, 2, 5, 16} {
		var times [n]atomic.Int64
		var busy [16]atomic.Bool
		solved, e := share(n, workers, byTurns(workers), func(i int) api.Errno {
			if !busy[i%workers].CompareAndSwap(false, true) {
				t.Errorf("the worker of %d is at two islands", i)
			}
			times[i].Add(1)
			busy[i%workers].Store(false)
			return api.OK
		})
		sum := 0
		for _, l := range solved {
			sum += l
		}
		if e != api.OK || len(solved) != workers || sum != n {
			t.Errorf("%d workers solved %v, and tell %d", workers, solved, e)
		}
		for i := range times {
			if got := times[i].Load(); got != 1 {
				t.Errorf("the island %d is solved %d times", i, got)
			}
		}
	}
}

// TestP26_1Refused: whichever islands are refused, one or all, the work ends, and nothing but the error is told.
func TestP26_1Refused(t *testing.T) {
	const n = 100
	for _, workers := range []int{1, 2, 16} {
		for _, every := range []int{1, 2, 7, n} {
			for range 20 {
				solved, e := share(n, workers, byTurns(workers), func(i int) api.Errno {
					if i%every == every-1 {
						return api.ErrMany
					}
					return api.OK
				})
				if e != api.ErrMany || solved != nil {
					t.Fatalf("%d workers solved %v, and tell %d", workers, solved, e)
				}
			}
		}
	}
}

// TestP26_1Over: where an island was refused, or more of them, a worker does not wait for others to come.
func TestP26_1Over(t *testing.T) {
	c := &crew{act: func(int) api.Errno { return api.ErrMany }, solved: make([]int, 2), over: make(chan struct{})}
	c.solve(0, 0)
	c.work(1, make(chan int))
	c.solve(0, 1)
	c.work(1, make(chan int))
	if got := c.refused.Load(); got != 2 || !slices.Equal(c.solved, []int{0, 0}) {
		t.Errorf("%d are refused, %v solved", got, c.solved)
	}
}
