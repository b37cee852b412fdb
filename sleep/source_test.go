package sleep_test

import (
	"fmt"
	"math"
	"slices"
	"testing"

	"tumble/api"
	"tumble/sleep"
)

var (
	none  = math.NaN()
	inf   = math.Inf(1)
	minus = math.Copysign(0, -1)
)

// mostCalm is where counting ends.
const mostCalm = 1 << 53

func v(x, y float64) api.Vec { return api.Vec{X: x, Y: y} }

func touch(a, b int) api.Touch { return api.Touch{Pair: api.Pair{A: a, B: b}} }

func sensing(a, b int) api.Touch { return api.Touch{Pair: api.Pair{A: a, B: b}, Sensor: true} }

// state has bodies of these kinds, but of the kind 0 free slots; its settings are the chapter's.
func state(kinds ...uint8) api.State {
	w := api.State{Settings: api.Settings{CalmSpeed: 1, CalmSpin: 1, CalmSteps: 2}}
	for i, k := range kinds {
		w.Bodies = append(w.Bodies, api.Slot{Use: uint32(i + 1), Live: k != 0, Body: api.Body{Kind: k}})
	}
	return w
}

// first is the chapter's state.
func first() api.State { return state(api.Free, api.Free, api.Free, api.Moved) }

// slept is a state whose Free bodies are all Asleep, with a Calm of 9.
func slept(w api.State) api.State {
	w = copied(w)
	for i := range w.Bodies {
		if b := &w.Bodies[i].Body; b.Kind == api.Free {
			b.Asleep, b.Calm = true, 9
		}
	}
	return w
}

// calms are what bodies have, by slots.
func calms(w api.State) []int {
	var l []int
	for _, s := range w.Bodies {
		l = append(l, s.Body.Calm)
	}
	return l
}

// sleepers are the slots of bodies that are Asleep.
func sleepers(w api.State) []int {
	var l []int
	for slot, s := range w.Bodies {
		if s.Body.Asleep {
			l = append(l, slot)
		}
	}
	return l
}

// text is all of a thing, so that what is no number is like itself, and a minus nought unlike nought.
func text(a any) string { return fmt.Sprintf("%#v", a) }

func isErr(t *testing.T, got, want api.Errno, call string, args ...any) {
	t.Helper()
	if got != want {
		t.Fatalf("%s%v tells %d, not %d", call, args, got, want)
	}
}

type call func(api.State, [][]int) (api.State, []api.Event, api.Errno)

func calm(t *testing.T, b api.Body, s api.Settings) bool {
	t.Helper()
	is, e := sleep.Calm(b, s)
	isErr(t, e, api.OK, "Calm", b, s)
	return is
}

func wake(t *testing.T, w api.State, islands [][]int) (api.State, []api.Event) {
	t.Helper()
	got, told, e := sleep.Wake(w, islands)
	isErr(t, e, api.OK, "Wake", islands)
	return got, told
}

func rest(t *testing.T, w api.State, islands [][]int) (api.State, []api.Event) {
	t.Helper()
	got, told, e := sleep.Rest(w, islands)
	isErr(t, e, api.OK, "Rest", islands)
	return got, told
}

// refused holds a call to an error, and to nothing beside it.
func refused(t *testing.T, f call, w api.State, islands [][]int, want api.Errno) {
	t.Helper()
	got, told, e := f(w, islands)
	if e != want || text(got) != text(api.State{}) || len(told) != 0 {
		t.Errorf("of %d bodies and %v: %v %d, not %d", len(w.Bodies), islands, told, e, want)
	}
}

func isTold(t *testing.T, got []api.Event, kind uint8, slots ...int) {
	t.Helper()
	var want []api.Event
	for _, slot := range slots {
		want = append(want, api.Event{Kind: kind, Pair: api.Pair{A: slot}})
	}
	if !slices.Equal(got, want) {
		t.Errorf("told is %v, not %d of %v", got, kind, slots)
	}
}

// enough tells of each kind whether it came up so often.
func enough(t *testing.T, count map[string]int, least int, kinds ...string) {
	t.Helper()
	for _, k := range kinds {
		if count[k] < least {
			t.Errorf("too few of %v: %v", k, count)
		}
	}
}

// source makes things from a rule of whole numbers: the same ones in each run.
type source uint64

func (s *source) next() uint64 {
	*s = *s*6364136223846793005 + 1442695040888963407
	return uint64(*s >> 31)
}

func (s *source) below(n int) int { return int(s.next() % uint64(n)) }

func (s *source) coin() bool { return s.below(2) == 0 }

// part is from 0 to 1.
func (s *source) part() float64 { return float64(s.next()&(1<<30-1)) / (1 << 30) }

func (s *source) about(far float64) float64 { return far * (2*s.part() - 1) }

func (s *source) place(far float64) api.Vec { return v(s.about(far), s.about(far)) }

func shuffle[T any](s *source, l []T) {
	for i := len(l) - 1; i > 0; i-- {
		k := s.below(i + 1)
		l[i], l[k] = l[k], l[i]
	}
}

// odd is seldom something else than nought, then anything.
func (s *source) odd() float64 {
	if s.below(12) != 0 {
		return 0
	}
	return []float64{none, inf, -inf, minus, math.SmallestNonzeroFloat64, -1, math.MaxFloat64}[s.below(7)]
}

// body is more often than not Free and calm. Nothing of it but what the chapter asks makes sense.
func (s *source) body() api.Body {
	kinds := []uint8{api.Free, api.Free, api.Free, api.Free, api.Free, api.Free, api.Fixed, api.Moved, api.Moved, 0, 4}
	b := api.Body{Kind: kinds[s.below(len(kinds))], Calm: s.below(5), Damp: none, Bullet: s.coin()}
	b.Frame = api.Frame{At: v(none, minus), Turn: complex(inf, none)}
	b.Asleep = s.below(3) != 0
	b.Force, b.Torque = v(s.odd(), s.odd()), s.odd()
	switch s.below(3) {
	case 0:
		b.Speed, b.Spin = s.place(0.8), s.about(1.2)
	case 1:
		b.Speed, b.Spin = v(s.odd(), s.odd()), s.odd()
	}
	if s.below(8) == 0 {
		b.Calm = []int{-1, mostCalm - 1, mostCalm, mostCalm + 1, math.MaxInt, math.MinInt}[s.below(6)]
	}
	for range s.below(3) {
		b.Parts = append(b.Parts, api.Part{Shape: api.Shape{Radius: none, Points: []api.Vec{v(1, minus), v(none, 2)}}, Sensor: s.coin()})
	}
	return b
}

// state has all that is not looked at as anything.
func (s *source) state(slots, touches int) api.State {
	w := api.State{Settings: api.Settings{Step: none, Rounds: -1, CalmSpeed: 0.75, CalmSpin: s.part(), CalmSteps: 1 + s.below(4)}, Tick: -1}
	if s.below(8) == 0 {
		w.Settings.CalmSteps = mostCalm - s.below(2)
	}
	for range slots {
		w.Bodies = append(w.Bodies, api.Slot{Use: uint32(s.below(3)), Live: s.below(6) != 0, Body: s.body()})
	}
	for range touches {
		p := api.Pair{A: s.below(slots+2) - 1, PartA: -7, B: s.below(slots+2) - 1, PartB: s.below(99)}
		points := []api.Point{{Push: none, ID: 7}, {Drag: minus}}
		w.Touches = append(w.Touches, api.Touch{Pair: p, Sensor: s.below(4) == 0, Normal: v(none, inf), Points: points[:s.below(3)]})
	}
	for range s.below(3) {
		w.Joints = append(w.Joints, api.JointSlot{Use: 9, Live: s.coin(), Joint: api.Joint{Kind: 77, Push: [3]float64{none, minus, inf}}})
	}
	return w
}

// islands may be of a state: most of its Free bodies, in any order of islands.
func (s *source) islands(w api.State) [][]int {
	l := make([][]int, 1+s.below(4))
	for slot := range w.Bodies {
		if isFree(w, slot) && s.below(8) != 0 {
			at := s.below(len(l))
			l[at] = append(l[at], slot)
		}
	}
	l = slices.DeleteFunc(l, func(one []int) bool { return len(one) == 0 })
	shuffle(s, l)
	return l
}

// whole is a state and islands of it.
func (s *source) whole() (api.State, [][]int) {
	n := s.below(10)
	w := s.state(n, s.below(3*n+1))
	return w, s.islands(w)
}

// copied shares no list but those of bodies' parts and touches' points.
func copied(w api.State) api.State {
	w.Bodies, w.Joints, w.Touches = slices.Clone(w.Bodies), slices.Clone(w.Joints), slices.Clone(w.Touches)
	return w
}
