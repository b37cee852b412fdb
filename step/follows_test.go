package step_test

import (
	"math"
	"slices"
	"sync"
	"testing"

	"tumble/api"
	"tumble/body"
	"tumble/island"
	"tumble/pairs"
	"tumble/sleep"
	"tumble/step"
)

// found is a state with the touches that step 1 finds, and its islands.
func found(t *testing.T, w api.State) (api.State, [][]int) {
	t.Helper()
	l, e := pairs.Touches(w.Bodies, w.Touches)
	isErr(t, e, api.OK, "Touches")
	w.Touches = l
	islands, e := island.Of(w)
	isErr(t, e, api.OK, "Of")
	return w, islands
}

// without is a state from which bodies are taken out, with their joints and touches.
func without(w api.State, slots []int) api.State {
	w = copied(w)
	for _, slot := range slots {
		w.Bodies[slot] = api.Slot{Use: w.Bodies[slot].Use}
	}
	for i, s := range w.Joints {
		if s.Live && (slices.Contains(slots, int(s.Joint.A.Slot)) || slices.Contains(slots, int(s.Joint.B.Slot))) {
			w.Joints[i] = api.JointSlot{Use: s.Use}
		}
	}
	w.Touches = slices.DeleteFunc(w.Touches, func(t api.Touch) bool {
		return slices.Contains(slots, t.Pair.A) || slices.Contains(slots, t.Pair.B)
	})
	return w
}

// any is a state of some steps, so that it has touches with impulses, or of none; half of them are strange.
func (s *source) any(t *testing.T, slots int) api.State {
	t.Helper()
	w := s.state(slots)
	if s.coin() {
		w = s.strange(slots)
	}
	w = run(t, w, s.below(6))
	for _, slot := range slotsOf(w, isFree) {
		if s.once(6) {
			w.Bodies[slot].Body.Force, w.Bodies[slot].Body.Torque = s.place(20), s.about(20)
		}
	}
	return w
}

// TestP25_6Check: what One answers may be, and can be stepped again.
func TestP25_6Check(t *testing.T) {
	s := source(11)
	for range 300 {
		w := s.any(t, s.below(12))
		for range 4 {
			isErr(t, step.Check(w), api.OK, "Check")
			w, _ = one(t, w)
		}
		isErr(t, step.Check(w), api.OK, "Check")
	}
}

// TestW1Again: the same state, stepped again, in other memory or by other parts, is the same.
func TestW1Again(t *testing.T) {
	s := source(12)
	for range 150 {
		w := s.any(t, s.below(12))
		first, told := one(t, w)
		again, toldAgain := one(t, step.Twin(w))
		if !sameState(first, again) || !slices.Equal(told, toldAgain) {
			t.Fatal("One of a copy is another one")
		}
		n, m := s.below(6), s.below(6)
		if whole, parts := run(t, w, n+m), run(t, run(t, w, n), m); !step.Same(whole, parts) || step.Sum(whole) != step.Sum(parts) {
			t.Fatalf("Run of %d steps and of %d is another one", n, m)
		}
	}
}

// TestR2Together: steps that are made at the same time do not meet.
func TestR2Together(t *testing.T) {
	s := source(13)
	w := s.any(t, 14)
	want := step.Sum(run(t, w, 10))
	var sums [8]uint64
	var all sync.WaitGroup
	for i := range sums {
		all.Add(1)
		go func() {
			defer all.Done()
			if next, e := step.Run(w, 10); e == api.OK {
				sums[i] = step.Sum(next)
			}
		}()
	}
	all.Wait()
	for _, sum := range sums {
		if sum != want {
			t.Errorf("the sum is %d, not %d", sum, want)
		}
	}
}

// TestW2Apart: some islands alone step to the same bodies, joints and touches, whatever the others are, wild ones too (W3).
func TestW2Apart(t *testing.T) {
	s, count := source(14), counts{}
	for range 400 {
		w := s.any(t, 2+s.below(12))
		_, islands := found(t, w)
		var taken []int
		for _, slots := range islands {
			if s.coin() {
				taken = append(taken, slots...)
				count["taken"]++
				for _, slot := range slots {
					if body.Wild(w.Bodies[slot].Body) {
						count["wild"]++
					}
				}
			} else {
				count["left"]++
				count["together"] += len(slots) - 1
			}
		}
		whole, _ := one(t, w)
		some, _ := one(t, without(w, taken))
		if !sameState(some, without(whole, taken)) {
			t.Fatalf("without %v %#v is %#v, not %#v", taken, w, some, without(whole, taken))
		}
	}
	enough(t, count, 40, "taken", "left", "wild", "together")
}

// TestW3Wild: what goes wild in a step changes nothing of the other islands; once wild, it changes nothing but itself.
func TestW3Wild(t *testing.T) {
	s, count := source(15), counts{}
	for range 400 {
		w := s.state(4 + s.below(8))
		list := slotsOf(w, isFree)
		if len(list) == 0 {
			continue
		}
		slot := list[s.below(len(list))]
		_, islands := found(t, w)
		of := islands[slices.IndexFunc(islands, func(l []int) bool { return slices.Contains(l, slot) })]
		wild := copied(w)
		set(&wild.Bodies[slot].Body, 7, math.MaxFloat64)
		set(&wild.Bodies[slot].Body, 9, math.MaxFloat64)
		calm, _ := one(t, w)
		next, told := one(t, wild)
		if !sameState(without(calm, of), without(next, of)) {
			t.Fatalf("the wild %d changes more than its island", slot)
		}
		if slices.Contains(told, event(5, slot)) {
			count["went wild"]++
			after, told := one(t, next)
			if slices.Contains(told, event(5, slot)) {
				t.Fatal("it goes wild twice")
			}
			lone, _ := one(t, without(next, []int{slot}))
			// What it was linked with may have been woken by it, or not; of bodies that are awake nothing is another one.
			for i, l := range lone.Bodies {
				if i != slot && l.Live && !sameBody(l.Body, after.Bodies[i].Body) {
					t.Fatalf("a wild body changes %d", i)
				}
			}
		}
	}
	enough(t, count, 20, "went wild")
}

// TestW6Asleep: what sleeps behind Wake is the same behind the step, but for what acts for one step alone.
func TestW6Asleep(t *testing.T) {
	s, count := source(16), counts{}
	for range 400 {
		w := s.any(t, 1+s.below(10))
		now, islands := found(t, w)
		woken, _, e := sleep.Wake(now, islands)
		isErr(t, e, api.OK, "Wake")
		next, _ := one(t, w)
		for slot, l := range woken.Bodies {
			if !l.Body.Asleep {
				continue
			}
			count["asleep"]++
			l.Body.Force, l.Body.Torque = v(0, 0), 0
			if !sameBody(l.Body, next.Bodies[slot].Body) {
				t.Fatalf("%d sleeps and goes on: %v", slot, next.Bodies[slot].Body)
			}
		}
	}
	enough(t, count, 100, "asleep")
}

// TestW6Long: for however many steps.
func TestW6Long(t *testing.T) {
	w := world(free(0, 1.99609375), fixed(0, 0))
	w = run(t, w, 200)
	if !w.Bodies[0].Body.Asleep {
		t.Fatal("it does not sleep")
	}
	later := run(t, w, 500)
	later.Tick = w.Tick
	if !sameState(w, later) {
		t.Error("it sleeps and goes on")
	}
}

// TestW7Nothing: where nothing acts on a body, it goes on at its speed, or falls asleep.
func TestW7Nothing(t *testing.T) {
	s, count := source(17), counts{}
	for range 300 {
		w := s.state(1 + s.below(8))
		w.Settings.Gravity = v(0, minus)
		w.Joints = nil
		for slot := range w.Bodies {
			b := &w.Bodies[slot].Body
			if b.Force, b.Torque, b.Damp, b.SpinDamp = v(0, 0), 0, 0, 0; w.Bodies[slot].Live {
				b.Frame.At = v(40*float64(slot), b.Frame.At.Y)
			}
		}
		next, _ := one(t, w)
		for _, slot := range slotsOf(w, isFree) {
			was, is := w.Bodies[slot].Body, next.Bodies[slot].Body
			switch {
			case is.Asleep && is.Speed == v(0, 0) && is.Spin == 0:
				count["asleep"]++
			case is.Speed == was.Speed && is.Spin == was.Spin:
				count["goes on"]++
			default:
				t.Fatalf("%v becomes %v", was, is)
			}
		}
	}
	enough(t, count, 60, "asleep", "goes on")
}

// scale makes a world's floats so many times as great, as W5 says: 2^k of lengths, their powers of the others.
type scale int

func (k scale) by(f float64, power int) float64 { return math.Ldexp(f, int(k)*power) }

func (k scale) vec(p api.Vec, power int) api.Vec { return v(k.by(p.X, power), k.by(p.Y, power)) }

func (k scale) body(b api.Body) api.Body {
	b.Frame.At, b.Speed = k.vec(b.Frame.At, 1), k.vec(b.Speed, 1)
	b.Force, b.Torque = k.vec(b.Force, 3), k.by(b.Torque, 4)
	for i := range b.Parts {
		w := &b.Parts[i].Shape
		w.Radius = k.by(w.Radius, 1)
		for n, p := range w.Points {
			w.Points[n] = k.vec(p, 1)
		}
	}
	return b
}

func (k scale) joint(j api.Joint) api.Joint {
	j.AtA, j.AtB = k.vec(j.AtA, 1), k.vec(j.AtB, 1)
	push := [3]int{3, 3, 3}
	switch j.Kind {
	case api.Pin:
		push[2] = 4
		j.Most = k.by(j.Most, 4)
	case api.Rod:
		j.Rest, j.Low, j.High = k.by(j.Rest, 1), k.by(j.Low, 1), k.by(j.High, 1)
	case api.Rail:
		j.Low, j.High, j.Speed, j.Most = k.by(j.Low, 1), k.by(j.High, 1), k.by(j.Speed, 1), k.by(j.Most, 3)
	case api.Weld:
		push[2] = 4
	case api.Gear:
		push[0] = 4
	}
	for i, power := range push {
		j.Push[i] = k.by(j.Push[i], power)
	}
	return j
}

func (k scale) state(w api.State) api.State {
	w = copied(w)
	set := &w.Settings
	set.Gravity, set.Slop, set.Threshold, set.CalmSpeed = k.vec(set.Gravity, 1), k.by(set.Slop, 1), k.by(set.Threshold, 1), k.by(set.CalmSpeed, 1)
	for i := range w.Bodies {
		w.Bodies[i].Body = k.body(w.Bodies[i].Body)
	}
	for i := range w.Joints {
		w.Joints[i].Joint = k.joint(w.Joints[i].Joint)
	}
	for i := range w.Touches {
		for n := range w.Touches[i].Points {
			p := &w.Touches[i].Points[n]
			p.At, p.Depth, p.Push, p.Drag = k.vec(p.At, 1), k.by(p.Depth, 1), k.by(p.Push, 3), k.by(p.Drag, 3)
		}
	}
	return w
}

// TestW5PowersOfTwo: a world so many times as great steps to the same world, so many times as great.
func TestW5PowersOfTwo(t *testing.T) {
	s, count := source(18), counts{}
	for range 200 {
		w := s.state(2 + s.below(10))
		for _, j := range w.Joints {
			count[[...]string{"none", "pin", "rod", "rail", "weld", "gear"}[j.Joint.Kind]]++
		}
		// No farther, so that no impulse comes beyond MaxReal, where none is kept.
		k := scale(1 + s.below(6))
		if s.coin() {
			k = -k
		}
		big := k.state(w)
		for range 4 {
			next, told := one(t, w)
			great, toldGreat := one(t, big)
			if !sameState(k.state(next), great) || !slices.Equal(told, toldGreat) {
				t.Fatalf("2^%d times as great it is another world", k)
			}
			count["touches"] += len(next.Touches)
			count["events"] += len(told)
			w, big = next, great
		}
	}
	enough(t, count, 50, "pin", "rod", "rail", "weld", "gear", "touches", "events")
}

// TestR1Any: whatever a state has, Check tells whether it may be, and a step of one that may be is made or refused.
func TestR1Any(t *testing.T) {
	s, count := source(19), map[api.Errno]int{}
	for range 1500 {
		w := s.strange(s.below(8))
		if s.coin() {
			w.Settings = api.Settings{Step: s.pick(api.MinReal, 1, api.MaxReal), Gravity: v(s.pick(0, api.MaxReal), s.pick(minus, -api.MaxReal)), Rounds: s.pickInt(0, 1, 64), Slop: s.pick(0, api.MaxReal), Share: s.pick(0, 1), Threshold: s.pick(0, api.MaxReal), CalmSpeed: s.pick(0, api.MaxReal), CalmSpin: s.pick(0, api.MaxReal), CalmSteps: s.pickInt(1, mostTick)}
		}
		if s.once(4) {
			w = full()
			for range s.below(3) {
				l := changes()
				l[s.below(len(l))](&w)
			}
			w.Touches[s.below(len(w.Touches))].Points[0].Push = s.wide()
		}
		e := step.Check(w)
		count[e]++
		step.Sum(w)
		step.Twin(w)
		next, told, refused := step.One(w)
		if e != refused || e != api.OK && (text(next) != text(api.State{}) || told != nil) {
			t.Fatalf("One tells %d, Check %d", refused, e)
		}
		if e == api.OK {
			isErr(t, step.Check(next), api.OK, "Check of what One answers")
		}
		if _, e := step.Run(w, 2); e != refused {
			t.Fatalf("Run tells %d, One %d", e, refused)
		}
	}
	enough(t, count, 20, api.OK, api.ErrWorld)
}

func (s *source) pickInt(l ...int) int { return l[s.below(len(l))] }

// TestR1Other: of what may not be Same, Sum and Twin tell something too.
func TestR1Other(t *testing.T) {
	w := api.State{Settings: api.Settings{Step: none, Rounds: math.MinInt}, Bodies: make([]api.Slot, 3000), Touches: make([]api.Touch, 5), Tick: math.MinInt}
	w.Bodies[2999].Body.Parts = make([]api.Part, 20)
	if step.Sum(w) != sumOf(numbers(w)) || !step.Same(step.Twin(w), w) {
		t.Error("a state that may not be is not the same as its twin")
	}
}

// kinetic is how much the Free bodies of a state move, the wild ones left out.
func kinetic(w api.State) float64 {
	sum := 0.0
	for _, slot := range slotsOf(w, isFree) {
		b := w.Bodies[slot].Body
		if s, e := body.Still(b); e == api.OK && s.Mass > 0 && s.Inertia > 0 {
			sum += (s.Speed.X*s.Speed.X+s.Speed.Y*s.Speed.Y)/(2*s.Mass) + s.Spin*s.Spin/(2*s.Inertia)
		}
	}
	return sum
}

// TestW7Energy: where bodies but touch, without bounce, friction, depth and impulses of before, they move no more behind a step, but for rounding.
func TestW7Energy(t *testing.T) {
	s, count := source(20), counts{}
	for range 400 {
		w := s.state(4 + s.below(8))
		w.Settings.Gravity, w.Settings.Slop, w.Joints = v(0, 0), 99, nil
		for slot := range w.Bodies {
			b := &w.Bodies[slot].Body
			b.Force, b.Torque = v(0, 0), 0
			if b.Kind == api.Moved {
				b.Speed, b.Spin = v(0, 0), 0
			}
			for i := range b.Parts {
				b.Parts[i].Friction, b.Parts[i].Bounce = 0, 0
			}
		}
		next, _ := one(t, w)
		ahead, behind := kinetic(w), kinetic(next)
		if behind > ahead+ahead*0x1p-16+0x1p-900 {
			t.Fatalf("%v grows to %v", ahead, behind)
		}
		if len(next.Touches) > 0 && behind < 0.99*ahead {
			count["less"]++
		}
	}
	enough(t, count, 100, "less")
}
