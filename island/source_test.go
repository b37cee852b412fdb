package island_test

import (
	"fmt"
	"math"
	"slices"
	"testing"

	"tumble/api"
	"tumble/island"
)

var (
	none = math.NaN()
	inf  = math.Inf(1)
)

const (
	leastInt = math.MinInt
	mostInt  = math.MaxInt
)

func v(x, y float64) api.Vec { return api.Vec{X: x, Y: y} }

func touch(a, b int) api.Touch { return api.Touch{Pair: api.Pair{A: a, B: b}} }

func sensing(a, b int) api.Touch { return api.Touch{Pair: api.Pair{A: a, B: b}, Sensor: true} }

// handle names what lies in a slot.
func handle(w api.State, slot int) api.Handle {
	return api.Handle{Slot: uint32(slot), Use: w.Bodies[slot].Use}
}

// joined is a joint of what lies in two slots.
func joined(w api.State, a, b int) api.JointSlot {
	return api.JointSlot{Use: 1, Live: true, Joint: api.Joint{Kind: api.Pin, A: handle(w, a), B: handle(w, b)}}
}

// state has bodies of these kinds, but of the kind 0 free slots.
func state(kinds ...uint8) api.State {
	var w api.State
	for i, k := range kinds {
		w.Bodies = append(w.Bodies, api.Slot{Use: uint32(i + 1), Live: k != 0, Body: api.Body{Kind: k}})
	}
	return w
}

// first is the chapter's state.
func first() api.State {
	return state(api.Free, api.Free, api.Free, api.Fixed, api.Free, 0)
}

// frees are so many Free bodies.
func frees(n int) api.State { return state(slices.Repeat([]uint8{api.Free}, n)...) }

// motion is how many floats of a body may be any in a world; the first seven make it wild.
const (
	wildest = 7
	motion  = 10
)

func set(b *api.Body, i int, f float64) {
	switch i {
	case 0:
		b.Frame.Turn = complex(f, imag(b.Frame.Turn))
	case 1:
		b.Frame.Turn = complex(real(b.Frame.Turn), f)
	default:
		*[]*float64{&b.Frame.At.X, &b.Frame.At.Y, &b.Speed.X, &b.Speed.Y, &b.Spin, &b.Force.X, &b.Force.Y, &b.Torque}[i-2] = f
	}
}

// text is all of a thing, so that what is no number is like itself.
func text(a any) string { return fmt.Sprintf("%#v", a) }

func isErr(t *testing.T, got, want api.Errno, call string, args ...any) {
	t.Helper()
	if got != want {
		t.Fatalf("%s%v tells %d, not %d", call, args, got, want)
	}
}

func of(t *testing.T, w api.State) [][]int {
	t.Helper()
	l, e := island.Of(w)
	isErr(t, e, api.OK, "Of", w)
	return l
}

func links(t *testing.T, w api.State) [][2]int {
	t.Helper()
	l, e := island.Links(w)
	isErr(t, e, api.OK, "Links", w)
	return l
}

func touches(t *testing.T, w api.State, one []int) []int {
	t.Helper()
	l, e := island.Touches(w, one)
	isErr(t, e, api.OK, "Touches", w, one)
	return l
}

func joints(t *testing.T, w api.State, one []int) []int {
	t.Helper()
	l, e := island.Joints(w, one)
	isErr(t, e, api.OK, "Joints", w, one)
	return l
}

func join(t *testing.T, n int, l [][2]int) []int {
	t.Helper()
	m, e := island.Join(n, l)
	isErr(t, e, api.OK, "Join", n, l)
	return m
}

func sameLists(a, b [][]int) bool { return slices.EqualFunc(a, b, slices.Equal[[]int]) }

// refused holds all calls of a state to one error, whatever the island, and to nothing beside it.
func refused(t *testing.T, w api.State, want api.Errno, one []int) {
	t.Helper()
	if l, e := island.Of(w); e != want || len(l) != 0 {
		t.Fatalf("Of is %v %d, not %d", l, e, want)
	}
	if l, e := island.Links(w); e != want || len(l) != 0 {
		t.Fatalf("Links is %v %d, not %d", l, e, want)
	}
	refusedIsland(t, w, want, one)
}

func refusedIsland(t *testing.T, w api.State, want api.Errno, one []int) {
	t.Helper()
	if l, e := island.Touches(w, one); e != want || len(l) != 0 {
		t.Fatalf("Touches of %v is %v %d, not %d", one, l, e, want)
	}
	if l, e := island.Joints(w, one); e != want || len(l) != 0 {
		t.Fatalf("Joints of %v is %v %d, not %d", one, l, e, want)
	}
}

// enough tells of each kind whether it came up so often.
func enough[K comparable](t *testing.T, count map[K]int, least int, kinds ...K) {
	t.Helper()
	for _, k := range kinds {
		if count[k] < least {
			t.Errorf("too few of %v: %v", k, count)
		}
	}
}

// source makes things from a rule of whole numbers: the same ones in each run.
type source uint64

func (s *source) next() uint64 {
	*s = *s*6364136223846793005 + 1442695040888963407
	return uint64(*s >> 31)
}

func (s *source) below(n int) int { return int(s.next() % uint64(n)) }

func (s *source) coin() bool { return s.below(2) == 0 }

// part is from 0 to 1.
func (s *source) part() float64 { return float64(s.next()&(1<<30-1)) / (1 << 30) }

func (s *source) about(far float64) float64 { return far * (2*s.part() - 1) }

func (s *source) place(far float64) api.Vec { return v(s.about(far), s.about(far)) }

func shuffle[T any](s *source, l []T) {
	for i := len(l) - 1; i > 0; i-- {
		k := s.below(i + 1)
		l[i], l[k] = l[k], l[i]
	}
}

// body is of any kind, more often than not Free, seldom wild; nothing else of it makes sense.
func (s *source) body() api.Body {
	kinds := []uint8{api.Free, api.Free, api.Free, api.Free, api.Free, api.Free, api.Fixed, api.Moved, 0, 4}
	b := api.Body{Kind: kinds[s.below(len(kinds))], Asleep: s.coin(), Calm: -s.below(3), Damp: none}
	b.Frame.At, b.Speed = s.place(9), s.place(9)
	if s.below(4) == 0 {
		set(&b, s.below(motion), []float64{none, inf, -inf, math.MaxFloat64}[s.below(4)])
	}
	return b
}

// two are the slots of bodies, the lesser one first; they are unlike.
func (s *source) two(live []int) (int, int) {
	a, b := s.below(len(live)), s.below(len(live)-1)
	if b >= a {
		b++
	}
	return live[min(a, b)], live[max(a, b)]
}

// state hangs right; all that is not looked at is anything.
func (s *source) state(slots, touches, joints int) api.State {
	w := api.State{Settings: api.Settings{Step: none, Rounds: -1}, Tick: -1}
	var live []int
	for i := range slots {
		w.Bodies = append(w.Bodies, api.Slot{Use: uint32(s.below(3)), Live: s.below(6) != 0, Body: s.body()})
		if w.Bodies[i].Live {
			live = append(live, i)
		}
	}
	if len(live) < 2 {
		return w
	}
	for range touches {
		a, b := s.two(live)
		p := api.Pair{A: a, PartA: s.below(3) - 1, B: b, PartB: -7}
		w.Touches = append(w.Touches, api.Touch{Pair: p, Sensor: s.below(4) == 0, Normal: v(none, inf)})
	}
	for range joints {
		a, b := s.two(live)
		if s.coin() {
			a, b = b, a
		}
		if s.below(8) == 0 {
			a = b
		}
		j := joined(w, a, b)
		j.Use, j.Joint.Kind = uint32(s.below(3)), uint8(s.below(7))
		if s.below(4) == 0 {
			// What lies in no slot counts for nothing.
			j.Live = false
			if s.coin() {
				j.Joint.A = api.Handle{Slot: 1<<32 - 1, Use: 5}
			}
		}
		w.Joints = append(w.Joints, j)
	}
	return w
}

// small is such a state with few or no things.
func (s *source) small() api.State {
	n := s.below(12)
	return s.state(n, s.below(n+1), s.below(n+1))
}

// copied shares no list but those of bodies' parts and touches' points.
func copied(w api.State) api.State {
	w.Bodies, w.Joints, w.Touches = slices.Clone(w.Bodies), slices.Clone(w.Joints), slices.Clone(w.Touches)
	return w
}

// takenOut has no bodies in some slots any more, and neither their touches nor their joints.
func takenOut(w api.State, isOut func(slot int) bool) api.State {
	w = copied(w)
	for i := range w.Bodies {
		if isOut(i) {
			w.Bodies[i].Live, w.Bodies[i].Body = false, api.Body{}
		}
	}
	w.Touches = slices.DeleteFunc(w.Touches, func(t api.Touch) bool { return isOut(t.Pair.A) || isOut(t.Pair.B) })
	for i, j := range w.Joints {
		if j.Live && (isOut(int(j.Joint.A.Slot)) || isOut(int(j.Joint.B.Slot))) {
			w.Joints[i].Live, w.Joints[i].Joint = false, api.Joint{}
		}
	}
	return w
}
