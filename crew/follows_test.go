package crew_test

import (
	"runtime"
	"sync"
	"testing"
	"time"

	"tumble/api"
	"tumble/body"
	"tumble/crew"
	"tumble/step"
)

// TestP26_6Same: by any number of workers, and all picks, the same state; the counts add up.
func TestP26_6Same(t *testing.T) {
	s := source(11)
	for range 40 {
		w := s.state(t, 3+s.below(14))
		want, _ := one(t, w)
		_, solved := found(t, w)
		for workers := 1; workers <= 16; workers++ {
			got, count, e := crew.Plan(w, workers, s.picks(s.below(12), workers))
			isErr(t, e, api.OK, "Plan", workers)
			sum := 0
			for _, n := range count {
				sum += n
			}
			if !step.Same(got, want) || len(count) != workers || sum != solved {
				t.Fatalf("Plan by %d workers tells %v of %d islands", workers, count, solved)
			}
		}
	}
}

// TestP26_6Picks: two workers, and each way in which they may share the islands.
func TestP26_6Picks(t *testing.T) {
	w := world(free(0, 0), free(1.5, 0), free(10, 0), free(20, 0), free(21.5, 0), free(30, 0), fixed(0, -1.75), fixed(20, 1.5))
	w.Bodies[5].Body.Speed.X = inf
	want, _ := one(t, w)
	for mask := range 16 {
		picks := []int{mask & 1, mask >> 1 & 1, mask >> 2 & 1, mask >> 3}
		got, _, e := crew.Plan(w, 2, picks)
		isErr(t, e, api.OK, "Plan", picks)
		if !step.Same(got, want) {
			t.Errorf("the picks %v make another state", picks)
		}
	}
}

// TestP26_7Alone: an island goes on alone as it does among the others, and so does what is not Free, whatever the others are (W2, W3).
func TestP26_7Alone(t *testing.T) {
	s, seen := source(12), map[string]int{}
	for range 300 {
		w := s.state(t, 2+s.below(12))
		next, _ := one(t, w)
		islands, _ := found(t, w)
		for _, slots := range islands {
			lone := isAlone(t, w, slots)
			if again := isAlone(t, lone, slots); !step.Same(again, lone) {
				t.Fatalf("Alone of %v is another state when it is alone", slots)
			}
			alone, _, e := crew.One(lone, s.workers())
			isErr(t, e, api.OK, "One")
			for slot, l := range alone.Bodies {
				if l.Live && !body.Same(l.Body, next.Bodies[slot].Body) {
					t.Fatalf("alone %v makes of %d %v, not %v", slots, slot, l.Body, next.Bodies[slot].Body)
				}
			}
			// Its joints, its touches and those of what is not Free are the same, too.
			if rest := without(next, others(next, slots)); !step.Same(alone, rest) {
				t.Fatalf("alone %v goes to %#v, not %#v", slots, alone, rest)
			}
			seen["together"] += len(slots) - 1
			seen["touches"] += len(alone.Touches)
			if isWild(next, slots) {
				seen["wild"]++
			} else if isWild(next, others(next, slots)) {
				seen["beside wild ones"]++
			}
			if alone.Bodies[slots[0]].Body.Asleep {
				seen["asleep"]++
			}
		}
	}
	enough(t, seen, 60, "together", "touches", "wild", "beside wild ones", "asleep")
}

// TestP26_7Long: for many steps, as long as no other island comes near.
func TestP26_7Long(t *testing.T) {
	w := world(thing(api.Fixed, 0, -1, crate(900, 1)), thing(api.Free, 0, 2, crate(0.5, 0.5)), thing(api.Free, 0.25, 4, crate(0.5, 0.5)), thing(api.Free, 50, 3, pill(0.25, 0.5)), free(50.5, 6), free(100, 9))
	w.Joints = []api.JointSlot{rod(3, 4)}
	w.Joints[0].Joint.Rest = 2
	whole, e := crew.Run(w, 120, 3)
	isErr(t, e, api.OK, "Run")
	for _, slots := range [][]int{{1, 2}, {3, 4}, {5}} {
		alone, e := crew.Run(isAlone(t, w, slots), 120, 2)
		isErr(t, e, api.OK, "Run")
		if want := without(whole, others(whole, slots)); !step.Same(alone, want) {
			t.Errorf("alone %v goes to %v, not %v", slots, alone, want)
		}
	}
}

// TestW1Again: the same state by other workers, in other memory or by other parts, is the same.
func TestW1Again(t *testing.T) {
	s := source(13)
	for range 60 {
		w, n, m := s.state(t, s.below(12)), s.below(6), s.below(6)
		whole, e := crew.Run(w, n+m, s.workers())
		isErr(t, e, api.OK, "Run", n+m)
		part, e := crew.Run(step.Twin(w), n, s.workers())
		isErr(t, e, api.OK, "Run", n)
		part, e = crew.Run(part, m, s.workers())
		isErr(t, e, api.OK, "Run", m)
		if !step.Same(whole, part) || step.Sum(whole) != step.Sum(part) {
			t.Fatalf("Run of %d steps and of %d is another state", n, m)
		}
	}
}

// TestW3Wild: an island that goes wild changes nothing of the others, whoever solves it.
func TestW3Wild(t *testing.T) {
	s := source(14)
	for range 60 {
		w := world(free(0, 0), free(1.5, 0), free(10, 0), free(11.5, 0), fixed(10, -1.75))
		w.Bodies[1].Body.Force.X, w.Bodies[1].Body.Parts[0].Density = 0x1p1023, 0x1p-20
		workers := s.workers()
		got, _, e := crew.Plan(w, workers, s.picks(2, workers))
		isErr(t, e, api.OK, "Plan")
		if !isWild(got, []int{1}) {
			t.Fatal("it does not go wild")
		}
		alone, _ := one(t, isAlone(t, w, []int{2, 3}))
		if !step.Same(alone, without(got, []int{0, 1})) {
			t.Fatal("what goes wild changes other islands")
		}
	}
}

// TestR2Together: crews that are at work at the same time do not meet.
func TestR2Together(t *testing.T) {
	s := source(15)
	w := s.state(t, 16)
	want, e := step.Run(w, 8)
	isErr(t, e, api.OK, "step.Run")
	var sums [8]uint64
	var all sync.WaitGroup
	for i := range sums {
		all.Add(1)
		go func() {
			defer all.Done()
			if next, e := crew.Run(w, 8, 1+2*i); e == api.OK {
				sums[i] = step.Sum(next)
			}
		}()
	}
	all.Wait()
	for _, sum := range sums {
		if sum != step.Sum(want) {
			t.Errorf("the sum is %d, not %d", sum, step.Sum(want))
		}
	}
}

// TestR2NoneLeft: no worker lives on, whether a step is made or refused.
func TestR2NoneLeft(t *testing.T) {
	before := runtime.NumGoroutine()
	for range 40 {
		for _, w := range []api.State{first(), last(), crowd(), deep()} {
			crew.One(w, 16)
			crew.Plan(w, 16, []int{3, 3})
			crew.Run(w, 2, 16)
		}
	}
	// One that has told that it is done may take a moment to end.
	for range 200 {
		if runtime.NumGoroutine() <= before {
			return
		}
		time.Sleep(5 * time.Millisecond)
	}
	t.Errorf("%d goroutines are left, not %d", runtime.NumGoroutine(), before)
}

// TestR1Any: whatever is handed in, each call ends and tells the same error as step does of the state.
func TestR1Any(t *testing.T) {
	s := source(16)
	for range 300 {
		w := s.state(t, s.below(8))
		for range s.below(3) {
			switch s.below(6) {
			case 0:
				w.Tick = []int{-1, mostTick, mostTick + 1}[s.below(3)]
			case 1:
				w.Touches = append(w.Touches, touchOf(s.below(9), s.below(9)))
			case 2:
				w.Joints = append(w.Joints, rod(s.below(9), s.below(9)))
			case 3:
				w.Bodies = append(w.Bodies, api.Slot{Live: true, Use: uint32(s.below(2))})
			case 4:
				w.Settings.Share = s.pick(none, 2, 1)
			case 5:
				w.Bodies = append(w.Bodies, s.body(3))
			}
		}
		want, _, refused := step.One(w)
		got, told, e := crew.One(w, s.workers())
		if e != refused || !step.Same(got, want) || e != api.OK && told != nil {
			t.Fatalf("One tells %d, step.One %d", e, refused)
		}
		_, e = crew.Alone(w, []int{s.below(9) - 1, s.below(9)})
		if check := step.Check(w); check != api.OK && e != check {
			t.Fatalf("Alone tells %d, Check %d", e, check)
		}
	}
}
