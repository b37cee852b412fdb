package sleep_test

import (
	"math"
	"slices"
	"testing"

	"tumble/api"
	"tumble/sleep"
)

// What follows says the chapter's words once more, one by one.

func isFree(w api.State, slot int) bool {
	return slot >= 0 && slot < len(w.Bodies) && w.Bodies[slot].Live && w.Bodies[slot].Body.Kind == 3
}

func isMoved(w api.State, slot int) bool {
	return slot >= 0 && slot < len(w.Bodies) && w.Bodies[slot].Live && w.Bodies[slot].Body.Kind == 2
}

func isNought(l ...float64) bool {
	for _, f := range l {
		if !(f == 0) {
			return false
		}
	}
	return true
}

func isAtRest(b api.Body) bool { return isNought(b.Speed.X, b.Speed.Y, b.Spin) }

func isPulled(b api.Body) bool { return !isNought(b.Force.X, b.Force.Y, b.Torque) }

func isDriven(w api.State, slot int) bool {
	by := func(other int) bool { return isMoved(w, other) && !isAtRest(w.Bodies[other].Body) }
	for _, t := range w.Touches {
		if !t.Sensor && (t.Pair.A == slot && by(t.Pair.B) || t.Pair.B == slot && by(t.Pair.A)) {
			return true
		}
	}
	return false
}

func isAwake(w api.State, one []int) bool {
	return slices.ContainsFunc(one, func(slot int) bool { return !w.Bodies[slot].Body.Asleep })
}

// isQuiet tells whether an island is all asleep, and nothing pulls or drives it.
func isQuiet(w api.State, one []int) bool {
	for _, slot := range one {
		if b := w.Bodies[slot].Body; !b.Asleep || isPulled(b) || isDriven(w, slot) {
			return false
		}
	}
	return true
}

func wantCalm(b api.Body, s api.Settings) bool {
	x, y := b.Speed.X*b.Speed.X, b.Speed.Y*b.Speed.Y
	return math.Sqrt(float64(x)+float64(y)) <= s.CalmSpeed && math.Abs(b.Spin) <= s.CalmSpin
}

func wantWake(w api.State, islands [][]int) (api.State, []api.Event) {
	after := copied(w)
	var told []api.Event
	for _, one := range islands {
		if isQuiet(w, one) {
			continue
		}
		for _, slot := range one {
			if b := &after.Bodies[slot].Body; b.Asleep {
				b.Asleep, b.Calm = false, 0
				told = append(told, api.Event{Kind: 4, Pair: api.Pair{A: slot}})
			}
		}
	}
	return after, told
}

func wantRest(w api.State, islands [][]int) (api.State, []api.Event) {
	after := copied(w)
	var told []api.Event
	for _, one := range islands {
		if !isAwake(w, one) {
			continue
		}
		sleeps := true
		for _, slot := range one {
			b := &after.Bodies[slot].Body
			switch {
			case !wantCalm(*b, w.Settings):
				b.Calm = 0
			case b.Calm >= mostCalm:
				b.Calm = mostCalm
			default:
				b.Calm++
			}
			sleeps = sleeps && b.Calm >= w.Settings.CalmSteps
		}
		if !sleeps {
			continue
		}
		for _, slot := range one {
			b := &after.Bodies[slot].Body
			if !b.Asleep {
				told = append(told, api.Event{Kind: 3, Pair: api.Pair{A: slot}})
			}
			b.Asleep, b.Speed, b.Spin = true, api.Vec{}, 0
		}
	}
	return after, told
}

func TestExamples(t *testing.T) {
	s := first().Settings
	for i, c := range []struct {
		speed api.Vec
		spin  float64
		want  bool
	}{{v(0.6, 0.8), -1, true}, {v(0.6, 0.9), -1, false}, {v(0.6, 0.9), 0, false}, {v(0.6, 0.8), none, false}} {
		if is := calm(t, api.Body{Speed: c.speed, Spin: c.spin}, s); is != c.want {
			t.Error(i, is)
		}
	}
	s.CalmSteps = 0
	if is, e := sleep.Calm(api.Body{}, s); is || e != api.ErrCalm {
		t.Error(is, e)
	}
	exampleWake(t)
	exampleRest(t)
}

func exampleWake(t *testing.T) {
	islands := [][]int{{0, 1}, {2}}
	w := slept(first())
	got, told := wake(t, w, islands)
	isTold(t, told, 4)
	if text(got) != text(w) {
		t.Error(got)
	}
	w.Bodies[1].Body.Torque = 1
	got, told = wake(t, w, islands)
	isTold(t, told, 4, 0, 1)
	if !slices.Equal(sleepers(got), []int{2}) || !slices.Equal(calms(got), []int{0, 0, 9, 0}) {
		t.Error(got)
	}
	for _, c := range []struct {
		speed float64
		touch api.Touch
		slots []int
	}{{1, touch(2, 3), []int{2}}, {0, touch(2, 3), nil}, {1, sensing(2, 3), nil}} {
		w := slept(first())
		w.Bodies[3].Body.Speed.X, w.Touches = c.speed, []api.Touch{c.touch}
		_, told := wake(t, w, islands)
		isTold(t, told, 4, c.slots...)
	}
	w = first()
	w.Bodies[0].Body.Asleep = true
	got, told = wake(t, w, [][]int{{0, 1}})
	isTold(t, told, 4, 0)
	if len(sleepers(got)) != 0 {
		t.Error(got)
	}
	for _, bad := range [][][]int{{{1, 0}}, {{0}, {0, 1}}, {{}}, {{3}}, {{7}}} {
		refused(t, sleep.Wake, w, bad, api.ErrCalm)
	}
}

func exampleRest(t *testing.T) {
	islands := [][]int{{0, 1}}
	w := first()
	w.Bodies[0].Body.Calm, w.Bodies[1].Body.Calm = 1, 5
	got, told := rest(t, w, islands)
	isTold(t, told, 3, 0, 1)
	if !slices.Equal(sleepers(got), []int{0, 1}) || !slices.Equal(calms(got), []int{2, 6, 0, 0}) {
		t.Error(got)
	}
	w.Bodies[1].Body.Speed.X = 9
	got, told = rest(t, w, islands)
	isTold(t, told, 3)
	if len(sleepers(got)) != 0 || !slices.Equal(calms(got), []int{2, 0, 0, 0}) || got.Bodies[1].Body.Speed != v(9, 0) {
		t.Error(got)
	}
}

func TestP23_1Calm(t *testing.T) {
	above := math.Nextafter(1, 2)
	for i, c := range []struct {
		speed     api.Vec
		spin      float64
		most, mot float64
		want      bool
	}{
		{v(0, 0), 0, 0, 0, true}, {v(minus, minus), minus, 0, 0, true}, {v(0, 0), 0, minus, minus, true},
		{v(1, 0), 1, 1, 1, true}, {v(-1, 0), -1, 1, 1, true}, {v(0, -1), 0, 1, 0, true},
		{v(above, 0), 0, 1, 1, false}, {v(0, -above), 0, 1, 1, false}, {v(0, 0), above, 1, 1, false}, {v(0, 0), -above, 1, 1, false},
		{v(0.6, 0.8), 0, 1, 1, true}, {v(0.6, 0.8), 0, math.Nextafter(1, 0), 1, false}, {v(1, 1), 0, 1, 1, false}, {v(1, 1), 0, math.Sqrt(2), 1, true},
		{v(none, 0), 0, 1, 1, false}, {v(0, none), 0, 1, 1, false}, {v(0, 0), none, 1, 1, false}, {v(inf, 0), 0, 1, 1, false},
		{v(0, -inf), 0, api.MaxReal, 1, false}, {v(0, 0), inf, 1, api.MaxReal, false}, {v(0, 0), -inf, 1, api.MaxReal, false},
		{v(1e200, 0), 0, api.MaxReal, 1, false}, {v(api.MaxReal, 0), -api.MaxReal, api.MaxReal, api.MaxReal, true},
		// The length's square is nought there.
		{v(1e-200, 0), 0, 0, 0, true}, {v(0, 0), 1e-200, 0, 0, false}, {v(0, 0), -1e-200, 0, 0, false},
	} {
		s := api.Settings{CalmSpeed: c.most, CalmSpin: c.mot, CalmSteps: 1}
		if is := calm(t, api.Body{Speed: c.speed, Spin: c.spin}, s); is != c.want {
			t.Errorf("%d: Calm of %v %v is %v", i, c.speed, c.spin, is)
		}
	}
}

// TestP23_1Else: of a body its Speed and Spin are asked, of settings the three, and nothing else.
func TestP23_1Else(t *testing.T) {
	source, count := source(1), map[string]int{}
	for range 5000 {
		b := source.body()
		s := api.Settings{Step: none, Gravity: v(none, inf), Rounds: -1, Slop: none, Share: -7, Threshold: none, CalmSpeed: source.part(), CalmSpin: source.part(), CalmSteps: 1 + source.below(9)}
		is := calm(t, b, s)
		if is != wantCalm(b, s) || is != calm(t, api.Body{Speed: b.Speed, Spin: b.Spin}, s) {
			t.Fatalf("Calm of %v is %v", b, is)
		}
		count[text(is)]++
	}
	enough(t, count, 1000, "true", "false")
}

// settings are some that are calm settings, and others that are not.
func settings() (well, bad []api.Settings) {
	of := func(speed, spin float64, steps int) api.Settings {
		return api.Settings{CalmSpeed: speed, CalmSpin: spin, CalmSteps: steps}
	}
	for _, f := range []float64{0, minus, math.SmallestNonzeroFloat64, 1, api.MaxReal} {
		well = append(well, of(f, 1, 1), of(1, f, 1))
	}
	for _, f := range []float64{none, inf, -inf, -math.SmallestNonzeroFloat64, -1, math.Nextafter(api.MaxReal, inf), -api.MaxReal, math.MaxFloat64} {
		bad = append(bad, of(f, 1, 1), of(1, f, 1))
	}
	for _, n := range []int{1, 2, mostCalm - 1, mostCalm} {
		well = append(well, of(1, 1, n))
	}
	for _, n := range []int{0, -1, math.MinInt, mostCalm + 1, math.MaxInt} {
		bad = append(bad, of(1, 1, n))
	}
	return well, bad
}

func TestP23_1Settings(t *testing.T) {
	well, bad := settings()
	for _, s := range well {
		if is, e := sleep.Calm(api.Body{}, s); !is || e != api.OK {
			t.Errorf("Calm with %v is %v %d", s, is, e)
		}
		if is, e := sleep.Calm(api.Body{Spin: none}, s); is || e != api.OK {
			t.Errorf("Calm with %v is %v %d", s, is, e)
		}
	}
	for _, s := range bad {
		if is, e := sleep.Calm(api.Body{}, s); is || e != api.ErrCalm {
			t.Errorf("Calm with %v is %v %d", s, is, e)
		}
	}
}

func TestP23_2Wake(t *testing.T) {
	s, count := source(2), map[string]int{}
	for range 10000 {
		w, islands := s.whole()
		got, told := wake(t, w, islands)
		want, events := wantWake(w, islands)
		if text(got) != text(want) || !slices.Equal(told, events) {
			t.Fatalf("Wake of %v with %v is %v, %v, not %v, %v", w, islands, got, told, want, events)
		}
		count["events"] += len(events)
		for _, one := range islands {
			if isQuiet(w, one) {
				count["quiet"]++
			}
			for _, slot := range one {
				switch b := w.Bodies[slot].Body; {
				case !b.Asleep:
					count["awake"]++
				case isPulled(b) && !isDriven(w, slot):
					count["pulled"]++
				case isDriven(w, slot) && !isPulled(b):
					count["driven"]++
				}
			}
		}
	}
	enough(t, count, 300, "events", "quiet", "awake", "pulled", "driven")
}

// TestP23_2Awake: one that was awake keeps its Calm, whatever wakes the island.
func TestP23_2Awake(t *testing.T) {
	for _, pull := range []float64{0, 5} {
		w := slept(state(api.Free, api.Free, api.Free))
		w.Bodies[1].Body.Asleep, w.Bodies[1].Body.Calm, w.Bodies[1].Body.Torque = false, 7, pull
		w.Bodies[1].Body.Speed = v(minus, none)
		got, told := wake(t, w, [][]int{{0, 1, 2}})
		isTold(t, told, 4, 0, 2)
		if !slices.Equal(calms(got), []int{0, 7, 0}) || len(sleepers(got)) != 0 || text(got.Bodies[1]) != text(w.Bodies[1]) {
			t.Error(got)
		}
	}
}

// TestP23_2Pulled: each float that is not nought pulls, no number too.
func TestP23_2Pulled(t *testing.T) {
	for i := range 3 {
		for _, f := range []float64{0, minus, none, inf, -inf, math.SmallestNonzeroFloat64, -1} {
			w := slept(state(api.Free, api.Free, api.Free))
			b := &w.Bodies[1].Body
			*[]*float64{&b.Force.X, &b.Force.Y, &b.Torque}[i] = f
			got, told := wake(t, w, [][]int{{0}, {1, 2}})
			if f == 0 {
				isTold(t, told, 4)
				continue
			}
			isTold(t, told, 4, 1, 2)
			if text(got.Bodies[1].Body.Force) != text(b.Force) || text(got.Bodies[1].Body.Torque) != text(b.Torque) {
				t.Error("a force is changed", got)
			}
		}
	}
}

// TestP23_2Driven: each float of Speed and Spin by which a Moved body is not at rest drives what it touches, on either side of the pair.
func TestP23_2Driven(t *testing.T) {
	for i := range 3 {
		for _, f := range []float64{0, minus, none, inf, -inf, math.SmallestNonzeroFloat64, -1} {
			for _, kind := range []uint8{api.Fixed, api.Moved, api.Free, 4, 255} {
				for _, pair := range [][2]int{{1, 3}, {3, 1}} {
					w := slept(state(api.Free, api.Free, api.Free, kind))
					b := &w.Bodies[3].Body
					*[]*float64{&b.Speed.X, &b.Speed.Y, &b.Spin}[i] = f
					w.Touches = []api.Touch{touch(pair[0], pair[1])}
					_, told := wake(t, w, [][]int{{2}, {0, 1}})
					if f != 0 && kind == api.Moved {
						isTold(t, told, 4, 0, 1)
					} else {
						isTold(t, told, 4)
					}
				}
			}
		}
	}
}

// TestP23_2Sleeps: what does not wake: the speed of one that is Asleep, a Force that is not an island's, a touch of what is driven.
func TestP23_2Sleeps(t *testing.T) {
	w := slept(state(api.Free, api.Free, api.Free, api.Moved, api.Moved, api.Fixed))
	w.Bodies[0].Body.Speed, w.Bodies[0].Body.Spin = v(5, none), inf
	w.Bodies[2].Body.Asleep = false
	for i := 2; i < 6; i++ {
		w.Bodies[i].Body.Force, w.Bodies[i].Body.Torque = v(1, 1), none
	}
	w.Bodies[3].Body.Speed = v(1, 1)
	w.Touches = []api.Touch{touch(0, 4), touch(0, 5), touch(1, 2), touch(2, 3), touch(3, 4), sensing(1, 3), sensing(0, 3)}
	got, told := wake(t, w, [][]int{{0, 1}})
	isTold(t, told, 4)
	if text(got) != text(w) {
		t.Error(got)
	}
	_, told = wake(t, w, [][]int{{0, 1, 2}})
	isTold(t, told, 4, 0, 1)
}

// TestP23_2Order: events come as the islands do, within each by slots.
func TestP23_2Order(t *testing.T) {
	w := slept(state(slices.Repeat([]uint8{api.Free}, 8)...))
	for _, slot := range []int{0, 7, 3} {
		w.Bodies[slot].Body.Torque = 1
	}
	_, told := wake(t, w, [][]int{{5, 7}, {2, 4}, {0, 1, 6}, {3}})
	isTold(t, told, 4, 5, 7, 0, 1, 6, 3)
	for i := range w.Bodies {
		w.Bodies[i].Body.Asleep = false
	}
	_, told = rest(t, w, [][]int{{5, 7}, {2, 4}, {0, 1, 6}, {3}})
	isTold(t, told, 3, 5, 7, 2, 4, 0, 1, 6, 3)
}

// TestP23_2Settings: Wake asks nothing of settings.
func TestP23_2Settings(t *testing.T) {
	_, bad := settings()
	for _, s := range bad {
		w := slept(first())
		w.Settings = s
		w.Bodies[2].Body.Force.Y = -1
		got, told := wake(t, w, [][]int{{0, 2}})
		isTold(t, told, 4, 0, 2)
		if text(got.Settings) != text(s) {
			t.Error(got.Settings)
		}
	}
}

func TestP23_3Rest(t *testing.T) {
	s, count := source(3), map[string]int{}
	for range 10000 {
		w, islands := s.whole()
		got, told := rest(t, w, islands)
		want, events := wantRest(w, islands)
		if text(got) != text(want) || !slices.Equal(told, events) {
			t.Fatalf("Rest of %v with %v is %v, %v, not %v, %v", w, islands, got, told, want, events)
		}
		count["events"] += len(events)
		for _, one := range islands {
			switch {
			case !isAwake(w, one):
				count["asleep"]++
			case isAwake(got, one):
				count["awake"]++
			default:
				count["fell asleep"]++
			}
		}
	}
	enough(t, count, 1000, "events", "asleep", "awake", "fell asleep")
}

// TestP23_3Count: how a Calm goes on, of one that is calm and of one that is not.
func TestP23_3Count(t *testing.T) {
	for _, c := range [][2]int{
		{0, 1}, {1, 2}, {7, 8}, {-1, 0}, {-5, -4}, {math.MinInt, math.MinInt + 1},
		{mostCalm - 2, mostCalm - 1}, {mostCalm - 1, mostCalm}, {mostCalm, mostCalm}, {mostCalm + 1, mostCalm}, {math.MaxInt, mostCalm},
	} {
		w := state(api.Free, api.Free)
		w.Settings.CalmSteps = mostCalm
		w.Bodies[0].Body.Calm, w.Bodies[1].Body.Calm = c[0], c[0]
		w.Bodies[1].Body.Spin = 2
		got, told := rest(t, w, [][]int{{0}, {1}})
		if !slices.Equal(calms(got), []int{c[1], 0}) {
			t.Errorf("of %d Calm is %v", c[0], calms(got))
		}
		if c[1] == mostCalm {
			isTold(t, told, 3, 0)
		} else {
			isTold(t, told, 3)
		}
	}
}

// TestP23_3Steps: as many as CalmSteps are enough, one less is not, of any body of the island.
func TestP23_3Steps(t *testing.T) {
	for _, steps := range []int{1, 2, 32, mostCalm} {
		for slow := range 3 {
			for _, off := range []int{0, -1} {
				w := state(api.Free, api.Free, api.Free)
				w.Settings.CalmSteps = steps
				for i := range w.Bodies {
					w.Bodies[i].Body.Calm = steps
				}
				w.Bodies[slow].Body.Calm = steps - 1 + off
				got, told := rest(t, w, [][]int{{0, 1, 2}})
				if off == 0 {
					isTold(t, told, 3, 0, 1, 2)
				} else {
					isTold(t, told, 3)
				}
				if got.Bodies[slow].Body.Calm != steps+off {
					t.Error(steps, slow, calms(got))
				}
			}
		}
	}
}

// TestP23_3Still: what falls asleep has no speed, not even a minus; what goes on keeps what it has.
func TestP23_3Still(t *testing.T) {
	for _, c := range []struct {
		steps int
		speed api.Vec
		spin  float64
	}{{1, v(0, 0), 0}, {2, v(minus, -0.5), minus}} {
		w := state(api.Free, api.Free)
		w.Settings.CalmSteps = c.steps
		for i := range w.Bodies {
			b := &w.Bodies[i].Body
			b.Speed, b.Spin, b.Force, b.Torque = v(minus, -0.5), minus, v(minus, 3), minus
		}
		got, _ := rest(t, w, [][]int{{0, 1}})
		for _, s := range got.Bodies {
			b := s.Body
			if text(b.Speed) != text(c.speed) || text(b.Spin) != text(c.spin) || b.Asleep != (c.steps == 1) {
				t.Error(c.steps, b)
			}
			if text(b.Force) != text(v(minus, 3)) || text(b.Torque) != text(minus) {
				t.Error("a force is changed", b)
			}
		}
	}
}

// TestP23_3Half: of an island that is half asleep all are counted, and events are of those alone that were awake.
func TestP23_3Half(t *testing.T) {
	w := state(api.Free, api.Free, api.Free)
	for i, calm := range []int{1, 3, 1} {
		w.Bodies[i].Body.Calm, w.Bodies[i].Body.Speed = calm, v(0.5, 0)
	}
	w.Bodies[1].Body.Asleep = true
	got, told := rest(t, w, [][]int{{0, 1, 2}})
	isTold(t, told, 3, 0, 2)
	if !slices.Equal(calms(got), []int{2, 4, 2}) || !slices.Equal(sleepers(got), []int{0, 1, 2}) || got.Bodies[1].Body.Speed != v(0, 0) {
		t.Error(got)
	}
	// One that is Asleep and not calm keeps the others up, and stays Asleep.
	w.Bodies[1].Body.Spin = -9
	got, told = rest(t, w, [][]int{{0, 1, 2}})
	isTold(t, told, 3)
	if !slices.Equal(calms(got), []int{2, 0, 2}) || !slices.Equal(sleepers(got), []int{1}) || got.Bodies[1].Body.Spin != -9 {
		t.Error(got)
	}
}

// TestP23_3Pulled: Rest asks neither for forces nor for touches.
func TestP23_3Pulled(t *testing.T) {
	w := first()
	w.Bodies[0].Body.Calm, w.Bodies[0].Body.Force, w.Bodies[0].Body.Torque = 1, v(5, none), inf
	w.Bodies[3].Body.Speed = v(7, 7)
	w.Touches = []api.Touch{touch(0, 3)}
	got, told := rest(t, w, [][]int{{0}})
	isTold(t, told, 3, 0)
	if got.Bodies[3].Body.Calm != 0 || got.Bodies[3].Body.Speed != v(7, 7) {
		t.Error(got)
	}
	got, told = rest(t, slept(w), [][]int{{0}})
	isTold(t, told, 3)
	if got.Bodies[0].Body.Calm != 9 {
		t.Error(got)
	}
}

func TestP23_3Settings(t *testing.T) {
	well, bad := settings()
	for _, s := range well {
		w := first()
		w.Settings = s
		w.Bodies[1].Body.Calm = mostCalm
		got, told := rest(t, w, [][]int{{1}})
		isTold(t, told, 3, 1)
		if text(got.Settings) != text(s) {
			t.Error(got.Settings)
		}
	}
	for _, s := range bad {
		w := first()
		w.Settings = s
		refused(t, sleep.Rest, w, [][]int{{1}}, api.ErrCalm)
		refused(t, sleep.Rest, w, nil, api.ErrCalm)
		refused(t, sleep.Rest, slept(w), [][]int{{0, 1}}, api.ErrCalm)
		refused(t, sleep.Rest, api.State{Settings: s}, nil, api.ErrCalm)
	}
}

func TestErrors(t *testing.T) {
	free := state(api.Free, api.Fixed, api.Moved, 0, api.Free, 4, api.Free)
	free.Bodies[3].Body.Kind = api.Free
	many, most := state(slices.Repeat([]uint8{api.Free}, api.MaxBodies+1)...), state(slices.Repeat([]uint8{api.Free}, api.MaxBodies)...)
	manyBad := many
	manyBad.Settings.CalmSteps = 0
	wide := make([]int, api.MaxBodies+1)
	for i := range wide {
		wide[i] = i
	}
	for _, f := range []call{sleep.Wake, sleep.Rest} {
		for _, c := range []struct {
			w       api.State
			islands [][]int
			want    api.Errno
		}{
			{many, nil, api.ErrMany}, {many, [][]int{{0}}, api.ErrMany}, {many, [][]int{{}}, api.ErrMany}, {many, [][]int{{-1}}, api.ErrMany},
			{manyBad, [][]int{{1, 0}}, api.ErrMany}, {api.State{Settings: free.Settings, Bodies: make([]api.Slot, 5000)}, nil, api.ErrMany},
			{free, [][]int{{}}, api.ErrCalm}, {free, [][]int{nil}, api.ErrCalm}, {free, [][]int{{0}, {}}, api.ErrCalm}, {free, [][]int{{0}, nil, {4}}, api.ErrCalm},
			{free, [][]int{{4, 0}}, api.ErrCalm}, {free, [][]int{{0, 0}}, api.ErrCalm}, {free, [][]int{{0, 6, 4}}, api.ErrCalm}, {free, [][]int{{4, 4, 6}}, api.ErrCalm},
			{free, [][]int{{0}, {0}}, api.ErrCalm}, {free, [][]int{{0, 4}, {6}, {4}}, api.ErrCalm}, {free, [][]int{{6}, {0, 4, 6}}, api.ErrCalm},
			{free, [][]int{{1}}, api.ErrCalm}, {free, [][]int{{2}}, api.ErrCalm}, {free, [][]int{{3}}, api.ErrCalm}, {free, [][]int{{5}}, api.ErrCalm},
			{free, [][]int{{0, 1}}, api.ErrCalm}, {free, [][]int{{0}, {4}, {5}}, api.ErrCalm},
			{free, [][]int{{7}}, api.ErrCalm}, {free, [][]int{{-1}}, api.ErrCalm}, {free, [][]int{{-1, 0}}, api.ErrCalm}, {free, [][]int{{math.MinInt}}, api.ErrCalm},
			{free, [][]int{{0, math.MaxInt}}, api.ErrCalm}, {free, [][]int{{4, api.MaxBodies}}, api.ErrCalm}, {api.State{Settings: free.Settings}, [][]int{{0}}, api.ErrCalm},
			{most, [][]int{wide}, api.ErrCalm}, {most, [][]int{{5}, wide[:api.MaxBodies]}, api.ErrCalm},
		} {
			refused(t, f, c.w, c.islands, c.want)
		}
		for _, c := range []struct {
			w       api.State
			islands [][]int
		}{
			{most, [][]int{wide[:api.MaxBodies]}}, {most, nil}, {api.State{Settings: free.Settings}, nil}, {api.State{Settings: free.Settings}, [][]int{}},
			{free, [][]int{{0, 4, 6}}}, {free, [][]int{{6}, {4}, {0}}}, {free, [][]int{{4}}}, {free, [][]int{{4}, {0, 6}}},
		} {
			if _, _, e := f(c.w, c.islands); e != api.OK {
				t.Errorf("%v of %d bodies: %d", c.islands, len(c.w.Bodies), e)
			}
		}
	}
}

// TestErrorsSource: islands that may be, with one thing wrong.
func TestErrorsSource(t *testing.T) {
	s, count := source(4), 0
	for range 5000 {
		w, islands := s.whole()
		if len(islands) == 0 {
			continue
		}
		at := s.below(len(islands))
		l := slices.Clone(islands[at])
		switch s.below(4) {
		case 0:
			l = append(l, len(w.Bodies)+s.below(3))
		case 1:
			l = slices.Insert(l, 0, -1-s.below(3))
		case 2:
			l = append(l, l[s.below(len(l))])
		default:
			slot := l[s.below(len(l))]
			if s.coin() {
				w.Bodies[slot].Live = false
			} else {
				w.Bodies[slot].Body.Kind = []uint8{0, 1, 2, 4, 255}[s.below(5)]
			}
		}
		islands[at] = l
		refused(t, sleep.Wake, w, islands, api.ErrCalm)
		refused(t, sleep.Rest, w, islands, api.ErrCalm)
		count++
	}
	if count < 3000 {
		t.Error("so few were wrong:", count)
	}
}

// TestLists: joints and touches are not counted and not checked.
func TestLists(t *testing.T) {
	w := slept(first())
	w.Bodies[3].Body.Spin = 1
	w.Joints = make([]api.JointSlot, api.MaxJoints+1)
	w.Touches = slices.Repeat([]api.Touch{touch(0, 1), touch(math.MinInt, math.MaxInt)}, api.MaxPairs)
	w.Touches = append(w.Touches, touch(2, 3))
	w.Joints[9].Live, w.Joints[9].Joint.A = true, api.Handle{Slot: 1<<32 - 1}
	w.Tick = math.MinInt
	got, told := wake(t, w, [][]int{{0}, {1}, {2}})
	isTold(t, told, 4, 2)
	if len(got.Joints) != len(w.Joints) || len(got.Touches) != len(w.Touches) || got.Tick != w.Tick {
		t.Error(len(got.Joints), len(got.Touches), got.Tick)
	}
}

// TestP23_4Touches: such of no slots, or of free ones, drive nothing; nor do they keep others from it.
func TestP23_4Touches(t *testing.T) {
	base := slept(state(api.Free, api.Moved, 0, api.Free, api.Moved))
	base.Bodies[1].Body.Speed = v(0, -1)
	base.Bodies[2].Body = api.Body{Kind: api.Moved, Speed: v(1, 1), Spin: 1}
	for _, n := range []int{-1, 2, 5, 6, api.MaxBodies, math.MaxInt, math.MinInt} {
		for _, p := range [][2]int{{0, n}, {n, 0}, {n, n}, {1, n}, {n, 1}} {
			w := copied(base)
			w.Touches = []api.Touch{touch(p[0], p[1])}
			got, told := wake(t, w, [][]int{{0, 3}})
			isTold(t, told, 4)
			if text(got) != text(w) {
				t.Error(p, got)
			}
			w.Touches = append(w.Touches, touch(3, 4), sensing(0, 1), touch(1, 3))
			_, told = wake(t, w, [][]int{{0, 3}})
			isTold(t, told, 4, 0, 3)
		}
	}
	// What was a Moved one's slot, and a Free one's, and is free now.
	w := copied(base)
	w.Touches = []api.Touch{touch(0, 1)}
	w.Bodies[1].Live = false
	_, told := wake(t, w, [][]int{{0}, {3}})
	isTold(t, told, 4)
}

// roomy has spare room behind a list, filled with something to be found again.
func roomy[T any](l []T, fill T) []T {
	whole := make([]T, len(l)+3)
	copy(whole, l)
	for i := len(l); i < len(whole); i++ {
		whole[i] = fill
	}
	return whole[:len(l)]
}

// spoil overwrites a list, with the room that it has.
func spoil[T any](l []T, with T) {
	l = l[:cap(l)]
	for i := range l {
		l[i] = with
	}
}

// roomyState has spare room behind all lists.
func roomyState(w api.State) api.State {
	w.Bodies, w.Joints, w.Touches = roomy(w.Bodies, api.Slot{Use: 77}), roomy(w.Joints, api.JointSlot{Use: 77}), roomy(w.Touches, touch(77, 77))
	for i := range w.Bodies {
		parts := roomy(w.Bodies[i].Body.Parts, api.Part{Density: 77})
		for k := range parts {
			parts[k].Shape.Points = roomy(parts[k].Shape.Points, v(77, 77))
		}
		w.Bodies[i].Body.Parts = parts
	}
	for i := range w.Touches {
		w.Touches[i].Points = roomy(w.Touches[i].Points, api.Point{ID: 77})
	}
	return w
}

// rooms are all lists of a state, with what lies in their spare room.
func rooms(w api.State) string {
	l := text(w.Bodies[:cap(w.Bodies)]) + text(w.Joints[:cap(w.Joints)]) + text(w.Touches[:cap(w.Touches)])
	for _, s := range w.Bodies {
		l += text(s.Body.Parts[:cap(s.Body.Parts)])
		for _, p := range s.Body.Parts {
			l += text(p.Shape.Points[:cap(p.Shape.Points)])
		}
	}
	for _, c := range w.Touches {
		l += text(c.Points[:cap(c.Points)])
	}
	return l
}

// spoilState overwrites all lists of a state, from the innermost ones on.
func spoilState(w api.State) {
	for _, s := range w.Bodies {
		for _, p := range s.Body.Parts {
			spoil(p.Shape.Points, v(-7, -7))
		}
		spoil(s.Body.Parts, api.Part{Density: -7})
	}
	for _, c := range w.Touches {
		spoil(c.Points, api.Point{Depth: -7})
	}
	spoil(w.Bodies, api.Slot{Use: 7})
	spoil(w.Joints, api.JointSlot{Use: 7})
	spoil(w.Touches, touch(-7, -7))
}

func TestP23_4Memory(t *testing.T) {
	s := source(5)
	for range 1000 {
		w, islands := s.whole()
		w = roomyState(w)
		for i := range islands {
			islands[i] = roomy(islands[i], 77)
		}
		inRooms := func() string {
			l := rooms(w)
			for _, one := range islands {
				l += text(one[:cap(one)])
			}
			return l
		}
		before := inRooms()
		for _, f := range []call{sleep.Wake, sleep.Rest} {
			got, told, e := f(w, islands)
			isErr(t, e, api.OK, "of", islands)
			again, _, _ := f(w, islands)
			spoil(told, api.Event{Kind: 77})
			spoilState(got)
			if after, _, _ := f(w, islands); inRooms() != before || text(after) != text(again) {
				t.Fatal("what is handed in is changed, or shared")
			}
		}
	}
}

// TestP23_4Apart: no two lists of an answer share memory, even where those that were handed in do.
func TestP23_4Apart(t *testing.T) {
	points := []api.Vec{v(1, 2), v(3, 4)}
	parts := []api.Part{{Shape: api.Shape{Points: points}}, {Shape: api.Shape{Points: points}}}
	spots := []api.Point{{ID: 1}}
	w := state(api.Free, api.Free)
	w.Bodies[0].Body.Parts, w.Bodies[1].Body.Parts = parts, parts
	w.Touches = []api.Touch{{Pair: api.Pair{B: 1}, Points: spots}, {Pair: api.Pair{B: 1}, Points: spots}}
	for _, f := range []call{sleep.Wake, sleep.Rest} {
		got, _, e := f(w, [][]int{{0, 1}})
		isErr(t, e, api.OK, "of", w)
		if text(got.Bodies[0].Body.Parts) != text(parts) || text(got.Touches) != text(w.Touches) {
			t.Fatal(got)
		}
		got.Bodies[0].Body.Parts[0].Shape.Points[0] = v(7, 7)
		got.Bodies[0].Body.Parts[1].Density = 7
		got.Touches[0].Points[0].ID = 7
		if got.Bodies[0].Body.Parts[1].Shape.Points[0] != v(1, 2) || text(got.Bodies[1].Body.Parts) != text(parts) || got.Touches[1].Points[0].ID != 1 {
			t.Error("two lists share memory")
		}
	}
}
