package sleep_test

import (
	"math"
	"slices"
	"testing"

	"tumble/api"
	"tumble/body"
	"tumble/island"
	"tumble/pairs"
	"tumble/sleep"
)

// isIn tells whether a slot is in one of the islands.
func isIn(islands [][]int, slot int) bool {
	return slices.ContainsFunc(islands, func(one []int) bool { return slices.Contains(one, slot) })
}

// isAsleepAll tells whether an island is asleep as a whole.
func isAsleepAll(w api.State, one []int) bool { return !isAwake(w, one) }

// isAwakeAll tells whether an island is awake as a whole.
func isAwakeAll(w api.State, one []int) bool {
	return !slices.ContainsFunc(one, func(slot int) bool { return w.Bodies[slot].Body.Asleep })
}

func areSame(a, b api.State, one []int) bool {
	return !slices.ContainsFunc(one, func(slot int) bool { return text(a.Bodies[slot]) != text(b.Bodies[slot]) })
}

func TestP23_5Quiet(t *testing.T) {
	s, count := source(21), map[string]int{}
	for range 3000 {
		w, islands := s.whole()
		woken, _ := wake(t, w, islands)
		rested, _ := rest(t, w, islands)
		for _, one := range islands {
			if isQuiet(w, one) {
				count["quiet"]++
				if !areSame(w, woken, one) || !areSame(w, rested, one) {
					t.Fatalf("an island that sleeps is changed: %v", one)
				}
			}
		}
		for _, after := range []api.State{woken, rested} {
			if len(after.Bodies) != len(w.Bodies) || after.Tick != w.Tick || text(after.Settings) != text(w.Settings) || text(after.Joints) != text(w.Joints) || text(after.Touches) != text(w.Touches) {
				t.Fatalf("more is changed than bodies: %v", after)
			}
			for slot := range w.Bodies {
				if isIn(islands, slot) {
					continue
				}
				count["of no island"]++
				if !areSame(w, after, []int{slot}) {
					t.Fatalf("a body of no island is changed: %v", after.Bodies[slot])
				}
			}
		}
	}
	enough(t, count, 1000, "quiet", "of no island")
}

func TestP23_6Whole(t *testing.T) {
	s, count := source(22), map[string]int{}
	for range 3000 {
		w, islands := s.whole()
		woken, _ := wake(t, w, islands)
		for _, one := range islands {
			switch {
			case isAwakeAll(woken, one):
				count["awake"]++
			case isAsleepAll(woken, one) && areSame(w, woken, one):
				count["asleep"]++
			default:
				t.Fatalf("behind Wake %v is neither awake nor asleep as a whole", one)
			}
		}
		again, told := wake(t, woken, islands)
		if len(told) != 0 || text(again) != text(woken) {
			t.Fatalf("Wake once more tells %v", told)
		}
		rested, _ := rest(t, woken, islands)
		for _, one := range islands {
			if !isAwakeAll(woken, one) {
				continue
			}
			switch {
			case isAwakeAll(rested, one):
				count["stays awake"]++
			case isAsleepAll(rested, one):
				count["falls asleep"]++
			default:
				t.Fatalf("behind Rest %v is neither awake nor asleep as a whole", one)
			}
		}
	}
	enough(t, count, 300, "awake", "asleep", "stays awake", "falls asleep")
}

// TestP23_7Just: the number of the Rest at which a calm island falls asleep hangs on its least Calm alone.
func TestP23_7Just(t *testing.T) {
	s := source(23)
	for range 300 {
		w := state(api.Free, api.Free, api.Free, api.Free)
		w.Settings.CalmSteps = 1 + s.below(12)
		one := []int{0, 1, 3}
		least := math.MaxInt
		for _, slot := range one {
			b := &w.Bodies[slot].Body
			b.Calm, b.Speed, b.Spin = s.below(6), s.place(0.7), s.about(1)
			least = min(least, b.Calm)
		}
		w.Bodies[2].Body.Speed.X = 2
		// One that has been calm for longer falls asleep at the first Rest.
		want := max(w.Settings.CalmSteps-least, 1)
		for n := 1; n <= want; n++ {
			var told []api.Event
			w, told = rest(t, w, [][]int{{2}, one})
			if n < want {
				isTold(t, told, 3)
			} else {
				isTold(t, told, 3, one...)
			}
		}
	}
}

func TestP23_7FromNought(t *testing.T) {
	for _, steps := range []int{1, 2, 3, 60} {
		w := first()
		w.Settings.CalmSteps = steps
		for n := 1; n <= steps+3; n++ {
			var told []api.Event
			w, told = rest(t, w, [][]int{{0, 1}, {2}})
			if n == steps {
				isTold(t, told, 3, 0, 1, 2)
			} else {
				isTold(t, told, 3)
			}
			if want := min(n, steps); !slices.Equal(calms(w), []int{want, want, want, 0}) {
				t.Errorf("behind %d of %d it is %v", n, steps, calms(w))
			}
		}
	}
}

// TestP23_7Stirred: one step that is not calm, of one body, and the whole island counts on from nought.
func TestP23_7Stirred(t *testing.T) {
	w := state(api.Free, api.Free)
	w.Settings.CalmSteps = 4
	one := [][]int{{0, 1}}
	fell := 0
	for n := 1; fell == 0 && n < 20; n++ {
		w.Bodies[1].Body.Spin = 0
		if n == 3 {
			w.Bodies[1].Body.Spin = -2
		}
		var told []api.Event
		if w, told = rest(t, w, one); len(told) != 0 {
			fell = n
		}
	}
	if fell != 7 || !slices.Equal(calms(w), []int{7, 4}) {
		t.Errorf("it falls asleep at %d with %v", fell, calms(w))
	}
}

// pile has balls in rows that lie on a floor, with the touches that they have, and a lift beside them.
func pile(t *testing.T, s *source) api.State {
	t.Helper()
	w := api.State{Settings: api.Settings{Step: 1.0 / 64, Rounds: 4, Slop: 0x1p-8, Share: 0.25, Threshold: 1, CalmSpeed: 0.25, CalmSpin: 0.25, CalmSteps: 1 + s.below(4)}}
	add := func(kind uint8, at api.Vec, radius float64) {
		p := api.Part{Shape: api.Shape{Kind: api.Circle, Radius: radius, Points: []api.Vec{{}}}, Density: 1, Friction: 0.5, Layer: 1, Mask: 1}
		w.Bodies = append(w.Bodies, api.Slot{Use: 1, Live: true, Body: api.Body{Kind: kind, Frame: api.Frame{At: at, Turn: 1}, Parts: []api.Part{p}}})
	}
	add(api.Fixed, v(0, -64), 64)
	add(api.Moved, v(-2, 0.5), 0.5)
	for i := range 8 {
		add(api.Free, v(float64(i)*[]float64{0.98, 1.5}[s.below(2)]-1, 0.4), 0.5)
	}
	return w
}

func withTouches(t *testing.T, w api.State) api.State {
	t.Helper()
	l, e := pairs.Touches(w.Bodies, w.Touches)
	isErr(t, e, api.OK, "pairs.Touches")
	w.Touches = l
	return w
}

func islandsOf(t *testing.T, w api.State) [][]int {
	t.Helper()
	l, e := island.Of(w)
	isErr(t, e, api.OK, "island.Of")
	return l
}

// TestW6Asleep: islands as they really are sleep on, bit by bit, for as long as nothing wakes them, and then wake as a whole.
func TestW6Asleep(t *testing.T) {
	s, count := source(24), map[string]int{}
	for range 60 {
		w := withTouches(t, pile(t, &s))
		for tick := range 24 {
			islands := islandsOf(t, w)
			w.Bodies[1].Body.Speed, w.Bodies[1].Body.Spin = v(0, 0), minus
			poke(&w, &s, tick)
			woken, up := wake(t, w, islands)
			rested, down := rest(t, woken, islands)
			for _, one := range islands {
				if isQuiet(w, one) {
					count["quiet"]++
					if !areSame(w, rested, one) {
						t.Fatalf("%v sleeps and is changed", one)
					}
				} else if !isAwakeAll(woken, one) {
					t.Fatalf("%v is not woken as a whole", one)
				}
			}
			count["woken"] += len(up)
			count["fallen asleep"] += len(down)
			w = rested
			calmed(&w)
		}
	}
	enough(t, count, 200, "quiet", "woken", "fallen asleep")
}

// poke does something seldom that wakes: a force, or a lift that sets off.
func poke(w *api.State, s *source, tick int) {
	slot := 2 + s.below(len(w.Bodies)-2)
	switch b := &w.Bodies[slot].Body; {
	case tick%6 != 5:
	case s.coin():
		b.Torque = 1
	default:
		w.Bodies[1].Body.Speed.Y = 1
	}
}

// calmed has no forces left, as behind a step.
func calmed(w *api.State) {
	for i := range w.Bodies {
		w.Bodies[i].Body.Force, w.Bodies[i].Body.Torque = api.Vec{}, 0
	}
}

// TestW6Beside: what happens to other islands, or which others are handed in, changes nothing of an island.
func TestW6Beside(t *testing.T) {
	s := source(25)
	for range 3000 {
		w, islands := s.whole()
		for _, f := range []call{sleep.Wake, sleep.Rest} {
			all, told, e := f(w, islands)
			isErr(t, e, api.OK, "of", islands)
			var each []api.Event
			for _, one := range islands {
				alone, own, e := f(w, [][]int{one})
				isErr(t, e, api.OK, "of", one)
				if each = append(each, own...); !areSame(all, alone, one) {
					t.Fatalf("%v alone is another", one)
				}
			}
			if !slices.Equal(each, told) {
				t.Fatalf("told is %v, one by one %v", told, each)
			}
			other := slices.Clone(islands)
			shuffle(&s, other)
			if got, _, e := f(w, other); e != api.OK || text(got) != text(all) {
				t.Fatalf("the state hangs on the islands' order: %v", other)
			}
		}
	}
}

// TestTogether: what falls asleep is a body that may be, and Wake of what Rest laid down, pulled at one place, is told of by all.
func TestTogether(t *testing.T) {
	s, count := source(26), 0
	for range 200 {
		w := withTouches(t, pile(t, &s))
		w.Settings.CalmSteps = 1
		islands := islandsOf(t, w)
		w, down := rest(t, w, islands)
		for _, b := range w.Bodies {
			if e := body.Check(b.Body); e != api.OK {
				t.Fatal(b, e)
			}
		}
		at := islands[s.below(len(islands))]
		w.Bodies[at[s.below(len(at))]].Body.Force.Y = -1
		_, up := wake(t, w, islands)
		isTold(t, up, 4, at...)
		if len(down) != 8 {
			t.Errorf("%d fell asleep", len(down))
		}
		count += len(at)
	}
	if count < 300 {
		t.Errorf("so few hang together: %d", count)
	}
}

// TestR2Again: the same is answered again.
func TestR2Again(t *testing.T) {
	s := source(27)
	for range 300 {
		w, islands := s.whole()
		for _, f := range []call{sleep.Wake, sleep.Rest} {
			first, told, e := f(w, islands)
			second, too, again := f(w, islands)
			if e != again || text(first) != text(second) || !slices.Equal(told, too) {
				t.Fatalf("of %v another answer", islands)
			}
		}
	}
}
