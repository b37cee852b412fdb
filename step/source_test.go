package step_test

import (
	"fmt"
	"math"
	"slices"
	"testing"

	"tumble/api"
	"tumble/body"
	"tumble/step"
)

var (
	minus = math.Copysign(0, -1)
	none  = math.NaN()
	inf   = math.Inf(1)
	past  = math.Nextafter(api.MaxReal, inf)
	tiny  = math.SmallestNonzeroFloat64
)

const mostTick = 1 << 53

func v(x, y float64) api.Vec { return api.Vec{X: x, Y: y} }

func disc(radius float64) api.Shape {
	return api.Shape{Kind: api.Circle, Radius: radius, Points: []api.Vec{v(0, 0)}}
}

func pill(radius, far float64) api.Shape {
	return api.Shape{Kind: api.Capsule, Radius: radius, Points: []api.Vec{v(-far, 0), v(far, 0)}}
}

func crate(x, y float64) api.Shape {
	return api.Shape{Kind: api.Polygon, Points: []api.Vec{v(-x, -y), v(x, -y), v(x, y), v(-x, y)}}
}

// part is one that meets all others like it.
func part(w api.Shape) api.Part { return api.Part{Shape: w, Density: 1, Layer: 1, Mask: 1} }

func thing(kind uint8, x, y float64, l ...api.Shape) api.Slot {
	b := api.Body{Kind: kind, Frame: api.Frame{At: v(x, y), Turn: 1}}
	for _, w := range l {
		b.Parts = append(b.Parts, part(w))
	}
	return api.Slot{Use: 1, Live: true, Body: b}
}

// ball is a circle of the radius 1.
func ball(kind uint8, x, y float64) api.Slot { return thing(kind, x, y, disc(1)) }

func free(x, y float64) api.Slot  { return ball(api.Free, x, y) }
func fixed(x, y float64) api.Slot { return ball(api.Fixed, x, y) }

// moved is one that goes on at a speed.
func moved(x, y float64, speed api.Vec) api.Slot {
	s := ball(api.Moved, x, y)
	s.Body.Speed = speed
	return s
}

// usual are Usual's settings, as the chapter has them.
func usual() api.Settings {
	return api.Settings{Step: 1.0 / 64, Gravity: v(0, -10), Rounds: 8, Slop: 1.0 / 256, Share: 0.25, Threshold: 1, CalmSpeed: 1.0 / 16, CalmSpin: 1.0 / 16, CalmSteps: 32}
}

func world(l ...api.Slot) api.State { return api.State{Settings: usual(), Bodies: l} }

// weightless is a world in which nothing falls.
func weightless(l ...api.Slot) api.State {
	w := world(l...)
	w.Settings.Gravity = v(0, 0)
	return w
}

// first is the chapter's W.
func first() api.State { return world(free(0, 10)) }

func handle(slot int) api.Handle { return api.Handle{Slot: uint32(slot), Use: 1} }

// jointOf is a joint of a kind with all that it must have, and no more.
func jointOf(kind uint8, a, b int) api.Joint {
	j := api.Joint{Kind: kind, A: handle(a), B: handle(b)}
	switch kind {
	case api.Rail:
		j.Axis = v(1, 0)
	case api.Gear:
		j.Ratio = 1
	}
	return j
}

func joined(j api.Joint) api.JointSlot { return api.JointSlot{Use: 1, Live: true, Joint: j} }

// touchOf is a touch that may be.
func touchOf(a, b int) api.Touch {
	return api.Touch{Pair: api.Pair{A: a, B: b}, Normal: v(0, 1), Points: []api.Point{{Depth: 1}}}
}

func event(kind uint8, slot int) api.Event { return api.Event{Kind: kind, Pair: api.Pair{A: slot}} }

// text is all of a thing, so that what is no number is like itself, and a minus nought unlike nought.
func text(a any) string { return fmt.Sprintf("%#v", a) }

func sameBody(a, b api.Body) bool { return body.Same(a, b) }

func isErr(t *testing.T, got, want api.Errno, call string, args ...any) {
	t.Helper()
	if got != want {
		t.Fatalf("%s%v tells %d, not %d", call, args, got, want)
	}
}

// one is a step that is not refused.
func one(t *testing.T, w api.State) (api.State, []api.Event) {
	t.Helper()
	next, told, e := step.One(w)
	isErr(t, e, api.OK, "One")
	return next, told
}

func run(t *testing.T, w api.State, n int) api.State {
	t.Helper()
	next, e := step.Run(w, n)
	isErr(t, e, api.OK, "Run", n)
	return next
}

// isRefused holds One and Run to an error, and to nothing beside it.
func isRefused(t *testing.T, w api.State, want api.Errno) {
	t.Helper()
	next, told, e := step.One(w)
	if e != want || text(next) != text(api.State{}) || told != nil {
		t.Errorf("One tells %d and %d events, not %d", e, len(told), want)
	}
	next, e = step.Run(w, 1)
	if e != want || text(next) != text(api.State{}) {
		t.Errorf("Run tells %d, not %d", e, want)
	}
}

func isTold(t *testing.T, got []api.Event, want ...api.Event) {
	t.Helper()
	if !slices.Equal(got, want) {
		t.Errorf("told is %v, not %v", got, want)
	}
}

// enough tells of each kind whether it came up so often.
func enough[K comparable](t *testing.T, count map[K]int, least int, kinds ...K) {
	t.Helper()
	for _, k := range kinds {
		if count[k] < least {
			t.Errorf("too few of %v: %v", k, count)
		}
	}
}

// source makes things from a rule of whole numbers: the same ones in each run.
type source uint64

func (s *source) next() uint64 {
	*s = *s*6364136223846793005 + 1442695040888963407
	return uint64(*s >> 31)
}

func (s *source) below(n int) int { return int(s.next() % uint64(n)) }

func (s *source) coin() bool { return s.below(2) == 0 }

// once is true once in n times.
func (s *source) once(n int) bool { return s.below(n) == 0 }

func (s *source) pick(l ...float64) float64 { return l[s.below(len(l))] }

// part is from 0 to 1.
func (s *source) part() float64 { return float64(s.next()&(1<<30-1)) / (1 << 30) }

func (s *source) about(far float64) float64 { return far * (2*s.part() - 1) }

func (s *source) place(far float64) api.Vec { return v(s.about(far), s.about(far)) }

func (s *source) turn() complex128 {
	if s.coin() {
		return []complex128{1, -1, 1i, -1i, 0.6 + 0.8i, -0.8 + 0.6i}[s.below(6)]
	}
	sin, cos := math.Sincos(2 * math.Pi * s.part())
	return complex(cos, sin)
}

// shape lies about home.
func (s *source) shape() api.Shape {
	switch s.below(4) {
	case 0:
		return disc(0.25 + s.part()/2)
	case 1:
		return pill(0.125+s.part()/4, 0.25+s.part()/2)
	case 2:
		return crate(0.25+s.part(), 0.25+s.part()/2)
	}
	w := crate(0.5, 0.5)
	w.Points[2] = v(s.part()/4, 0.25+s.part()/2)
	w.Points = w.Points[:3]
	return w
}

func (s *source) parts() []api.Part {
	l := make([]api.Part, 1+s.below(2)*s.below(3))
	for i := range l {
		w := s.shape()
		aside := s.place(0.5)
		for k, p := range w.Points {
			w.Points[k] = v(p.X+aside.X, p.Y+aside.Y)
		}
		l[i] = api.Part{Shape: w, Density: 0.5 + s.part(), Friction: s.pick(0, 0.25, 0.5, 1, 2), Bounce: s.pick(0, 0, 0.5, 1), Layer: 1, Mask: 1}
		switch s.below(12) {
		case 0:
			// A sensor weighs nothing: with sensors alone a Free body may not be.
			l[i].Sensor = i > 0
		case 1:
			l[i].Layer, l[i].Mask = 2, 2
		case 2:
			l[i].Layer, l[i].Mask = 3, 3
		}
	}
	return l
}

// kind is more often than not Free.
func (s *source) kind() uint8 {
	return []uint8{api.Free, api.Free, api.Free, api.Free, api.Free, api.Fixed, api.Moved}[s.below(7)]
}

// body is one that may be kept, not farther from home than that.
func (s *source) body(far float64) api.Body {
	b := api.Body{Kind: s.kind(), Frame: api.Frame{At: s.place(far), Turn: s.turn()}, Parts: s.parts()}
	if made, e := body.Made(b); e == api.OK {
		b = made
	}
	if b.Kind != api.Fixed && s.coin() {
		b.Speed, b.Spin = s.place(4), s.about(4)
	}
	if s.once(3) {
		b.Damp, b.SpinDamp = s.part(), s.part()
	}
	if s.once(4) {
		b.Force, b.Torque = s.place(30), s.about(30)
	}
	if b.Kind == api.Free && s.once(4) {
		b.Bullet, b.Speed = true, s.place(400)
	}
	if b.Kind == api.Free && s.once(3) {
		b.Asleep, b.Calm, b.Speed, b.Spin, b.Force, b.Torque = true, s.below(40), v(0, 0), 0, v(0, 0), 0
	}
	if !b.Asleep {
		b.Calm = s.below(6)
	}
	return b
}

// wide is a float such as few worlds have.
func (s *source) wide() float64 {
	return s.pick(none, inf, -inf, past, -past, math.MaxFloat64, -math.MaxFloat64, 0x1p600, 0x1p1023, api.MaxReal, minus, tiny)
}

// motion are those floats of a body that may be any in a state: the last three make none wild.
const motion = 10

func set(b *api.Body, i int, f float64) {
	switch i {
	case 0:
		b.Frame.Turn = complex(f, imag(b.Frame.Turn))
	case 1:
		b.Frame.Turn = complex(real(b.Frame.Turn), f)
	default:
		*[]*float64{&b.Frame.At.X, &b.Frame.At.Y, &b.Speed.X, &b.Speed.Y, &b.Spin, &b.Force.X, &b.Force.Y, &b.Torque}[i-2] = f
	}
}

// joint is one of two slots that may be.
func (s *source) joint(a, b int) api.Joint {
	j := jointOf(uint8(1+s.below(5)), a, b)
	if s.coin() {
		j.A, j.B = j.B, j.A
	}
	j.AtA, j.AtB = s.place(1), s.place(1)
	if j.Kind == api.Rail {
		j.Axis = []api.Vec{v(1, 0), v(0, -1), v(0.6, 0.8)}[s.below(3)]
	}
	j.Rest, j.Speed, j.Most = s.part()*2, s.about(4), s.part()*50
	if j.Kind == api.Gear {
		j.Ratio = s.pick(1, -2, 0.5)
	}
	j.Limit, j.Motor = s.coin(), s.coin()
	j.Low, j.High = s.part()/2, 0.5+s.part()
	j.Push = [3]float64{s.about(1), s.about(1), s.about(1)}
	return j
}

// settings differ in all that they say.
func (s *source) settings() api.Settings {
	l := usual()
	if s.coin() {
		return l
	}
	l.Step = s.pick(1.0/64, 1.0/60, 0.05)
	l.Gravity = s.place(12)
	l.Rounds = s.below(12)
	l.Slop, l.Share = s.pick(0, 0.01), s.pick(0, 0.2, 1)
	l.Threshold = s.pick(0, 0.5, 3)
	l.CalmSpeed, l.CalmSpin, l.CalmSteps = s.pick(0, 0.25, 9), s.pick(0, 0.5, 9), 1+s.below(6)
	return l
}

// state is a world such as one may hand in, of so many slots: bodies in a heap, joints among them, no touches yet.
func (s *source) state(slots int) api.State {
	w := api.State{Settings: s.settings(), Tick: s.below(9)}
	far := math.Sqrt(float64(slots)) * s.pick(0.6, 1.2)
	for range slots {
		l := api.Slot{Use: uint32(s.below(4))}
		if !s.once(8) {
			l.Use, l.Live, l.Body = 1, true, s.body(far)
		}
		w.Bodies = append(w.Bodies, l)
	}
	live := slotsOf(w, func(api.Body) bool { return true })
	for range s.below(slots + 1) {
		if s.once(4) || len(live) < 2 {
			w.Joints = append(w.Joints, api.JointSlot{Use: uint32(s.below(4))})
			continue
		}
		at := s.below(len(live) - 1)
		w.Joints = append(w.Joints, joined(s.joint(live[at], live[at+1])))
	}
	return w
}

// strange is a state in which some bodies have floats that few worlds have.
func (s *source) strange(slots int) api.State {
	w := s.state(slots)
	for _, slot := range slotsOf(w, func(api.Body) bool { return true }) {
		if s.once(4) {
			set(&w.Bodies[slot].Body, s.below(motion), s.wide())
		}
	}
	return w
}

// slotsOf are those of bodies such as are asked for.
func slotsOf(w api.State, is func(api.Body) bool) []int {
	var l []int
	for i, s := range w.Bodies {
		if s.Live && is(s.Body) {
			l = append(l, i)
		}
	}
	return l
}

func isFree(b api.Body) bool { return b.Kind == api.Free }

// copied shares nothing with what it is a copy of, and has no spare room.
func copied(w api.State) api.State {
	w.Bodies, w.Joints, w.Touches = slices.Clone(w.Bodies), slices.Clone(w.Joints), slices.Clone(w.Touches)
	for i := range w.Bodies {
		b := &w.Bodies[i].Body
		b.Parts = slices.Clone(b.Parts)
		for k := range b.Parts {
			b.Parts[k].Shape.Points = slices.Clone(b.Parts[k].Shape.Points)
		}
	}
	for i := range w.Touches {
		w.Touches[i].Points = slices.Clone(w.Touches[i].Points)
	}
	return w
}
