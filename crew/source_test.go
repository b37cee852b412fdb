package crew_test

import (
	"fmt"
	"math"
	"slices"
	"testing"

	"tumble/api"
	"tumble/body"
	"tumble/crew"
	"tumble/island"
	"tumble/pairs"
	"tumble/sleep"
	"tumble/step"
)

var (
	none = math.NaN()
	inf  = math.Inf(1)
)

const mostTick = 1 << 53

func v(x, y float64) api.Vec { return api.Vec{X: x, Y: y} }

func disc(radius float64) api.Shape {
	return api.Shape{Kind: api.Circle, Radius: radius, Points: []api.Vec{v(0, 0)}}
}

func pill(radius, far float64) api.Shape {
	return api.Shape{Kind: api.Capsule, Radius: radius, Points: []api.Vec{v(-far, 0), v(far, 0)}}
}

func crate(x, y float64) api.Shape {
	return api.Shape{Kind: api.Polygon, Points: []api.Vec{v(-x, -y), v(x, -y), v(x, y), v(-x, y)}}
}

// thing is one part that meets all others like it.
func thing(kind uint8, x, y float64, w api.Shape) api.Slot {
	part := api.Part{Shape: w, Density: 1, Friction: 0.5, Layer: 1, Mask: 1}
	return api.Slot{Use: 1, Live: true, Body: api.Body{Kind: kind, Frame: api.Frame{At: v(x, y), Turn: 1}, Parts: []api.Part{part}}}
}

func free(x, y float64) api.Slot  { return thing(api.Free, x, y, disc(1)) }
func fixed(x, y float64) api.Slot { return thing(api.Fixed, x, y, disc(1)) }

func asleep(s api.Slot) api.Slot {
	s.Body.Asleep, s.Body.Calm = true, 40
	return s
}

func world(l ...api.Slot) api.State { return api.State{Settings: step.Usual(), Bodies: l} }

// first is the chapter's W.
func first() api.State { return world(free(0, 0), free(4, 0), free(8, 0), fixed(12, 0)) }

// rod holds what was put first into two slots.
func rod(a, b int) api.JointSlot {
	return api.JointSlot{Use: 1, Live: true, Joint: api.Joint{Kind: api.Rod, A: api.Handle{Slot: uint32(a), Use: 1}, B: api.Handle{Slot: uint32(b), Use: 1}}}
}

// touchOf is a touch that may be.
func touchOf(a, b int) api.Touch {
	return api.Touch{Pair: api.Pair{A: a, B: b}, Normal: v(0, 1), Points: []api.Point{{Depth: 1}}}
}

// crowd are bodies in one place, that have more pairs than there may be.
func crowd() api.State {
	return world(slices.Repeat([]api.Slot{free(0, 0)}, 364)...)
}

// deep is a state that may be, and behind which there is none: two of its parts lie so that by rounding their touch is deeper than touches may be.
func deep() api.State {
	a, b := thing(api.Fixed, 0, 0, pill(0x1p40, 0)), thing(api.Free, 0, 0, disc(0x1p40))
	a.Body.Parts[0].Shape.Points = []api.Vec{v(3.938972528580984e+11, 1.0791179944454739e+12), v(-1.454778705193929e+11, -1.0783824988921661e+12)}
	b.Body.Parts[0].Shape.Points[0] = v(-1.3944422693673132e+11, -1.0542479245634475e+12)
	up, down := free(0, 0), fixed(0, 1.5)
	for _, s := range []api.Slot{up, down} {
		s.Body.Parts[0].Layer, s.Body.Parts[0].Mask = 2, 2
	}
	return world(a, up, b, down)
}

// text is all of a thing, so that what is no number is like itself, and a minus nought unlike nought.
func text(a any) string { return fmt.Sprintf("%#v", a) }

func isErr(t *testing.T, got, want api.Errno, call string, args ...any) {
	t.Helper()
	if got != want {
		t.Fatalf("%s%v tells %d, not %d", call, args, got, want)
	}
}

// one is a step that is not refused, of islands one by one.
func one(t *testing.T, w api.State) (api.State, []api.Event) {
	t.Helper()
	next, told, e := step.One(w)
	isErr(t, e, api.OK, "step.One")
	return next, told
}

// isOne holds One to what a step of islands one by one answers.
func isOne(t *testing.T, w api.State, workers int) {
	t.Helper()
	want, events := one(t, w)
	got, told, e := crew.One(w, workers)
	isErr(t, e, api.OK, "One", workers)
	if !step.Same(got, want) || !slices.Equal(told, events) {
		t.Fatalf("One of %#v by %d workers is %#v and tells %v, not %#v and %v", w, workers, got, told, want, events)
	}
}

// isAlone is Alone that is not refused.
func isAlone(t *testing.T, w api.State, slots []int) api.State {
	t.Helper()
	lone, e := crew.Alone(w, slots)
	isErr(t, e, api.OK, "Alone", slots)
	return lone
}

// found are the islands of a step, and how many of them are to be solved.
func found(t *testing.T, w api.State) (islands [][]int, solved int) {
	t.Helper()
	touches, e := pairs.Touches(w.Bodies, w.Touches)
	isErr(t, e, api.OK, "Touches")
	w.Touches = touches
	islands, e = island.Of(w)
	isErr(t, e, api.OK, "Of")
	w, _, e = sleep.Wake(w, islands)
	isErr(t, e, api.OK, "Wake")
	for _, slots := range islands {
		if slices.ContainsFunc(slots, func(slot int) bool { return !w.Bodies[slot].Body.Asleep }) {
			solved++
		}
	}
	return islands, solved
}

// enough tells of each kind whether it came up so often.
func enough(t *testing.T, count map[string]int, least int, kinds ...string) {
	t.Helper()
	for _, k := range kinds {
		if count[k] < least {
			t.Errorf("too few of %v: %v", k, count)
		}
	}
}

// source makes things from a rule of whole numbers: the same ones in each run.
type source uint64

func (s *source) next() uint64 {
	*s = *s*6364136223846793005 + 1442695040888963407
	return uint64(*s >> 31)
}

func (s *source) below(n int) int { return int(s.next() % uint64(n)) }

// once is true once in n times.
func (s *source) once(n int) bool { return s.below(n) == 0 }

func (s *source) pick(l ...float64) float64 { return l[s.below(len(l))] }

// part is from 0 to 1.
func (s *source) part() float64 { return float64(s.next()&(1<<30-1)) / (1 << 30) }

func (s *source) about(far float64) float64 { return far * (2*s.part() - 1) }

func (s *source) place(far float64) api.Vec { return v(s.about(far), s.about(far)) }

// workers are as many as there may be.
func (s *source) workers() int { return 1 + s.below(api.MaxWorkers) }

func (s *source) picks(n, workers int) []int {
	l := make([]int, n)
	for i := range l {
		l[i] = s.below(workers)
	}
	return l
}

func (s *source) shape() api.Shape {
	switch s.below(3) {
	case 0:
		return disc(0.25 + s.part()/2)
	case 1:
		return pill(0.125+s.part()/4, 0.25+s.part()/2)
	}
	return crate(0.25+s.part(), 0.25+s.part()/2)
}

// body is one that may be kept, not farther from home than that.
func (s *source) body(far float64) api.Slot {
	at := s.place(far)
	l := thing([]uint8{api.Free, api.Free, api.Free, api.Free, api.Fixed, api.Moved}[s.below(6)], at.X, at.Y, s.shape())
	b := &l.Body
	sin, cos := math.Sincos(2 * math.Pi * s.part())
	b.Frame.Turn = complex(cos, sin)
	b.Parts[0].Bounce = s.pick(0, 0, 0.5)
	if s.once(3) {
		sensor := b.Parts[0]
		sensor.Shape, sensor.Sensor = disc(1), true
		b.Parts = append(b.Parts, sensor)
	}
	if s.once(2) {
		b.Speed, b.Spin, b.Damp = s.place(4), s.about(4), s.part()
	}
	if b.Kind != api.Free {
		return l
	}
	switch s.below(8) {
	case 0, 1, 2:
		*b = asleep(l).Body
		b.Speed, b.Spin = v(0, 0), 0
	case 3:
		b.Force, b.Torque = s.place(30), s.about(30)
	case 4:
		b.Bullet, b.Speed = true, s.place(400)
	}
	return l
}

// joint is one of two slots that may be.
func (s *source) joint(a, b int) api.JointSlot {
	l := rod(a, b)
	j := &l.Joint
	j.Kind = uint8(1 + s.below(5))
	if s.once(2) {
		j.A, j.B = j.B, j.A
	}
	j.AtA, j.AtB, j.Rest = s.place(1), s.place(1), s.part()*2
	switch j.Kind {
	case api.Rail:
		j.Axis = v(0.6, 0.8)
	case api.Gear:
		j.Ratio = s.pick(1, -2, 0.5)
	}
	j.Push = [3]float64{s.about(1), s.about(1), s.about(1)}
	return l
}

// wild gives some bodies floats such as few have.
func (s *source) wild(w api.State) {
	for slot := range w.Bodies {
		if b := &w.Bodies[slot].Body; b.Kind != 0 && s.once(4) {
			*[]*float64{&b.Frame.At.X, &b.Speed.Y, &b.Spin, &b.Force.X, &b.Torque}[s.below(5)] = s.pick(none, inf, -inf, math.MaxFloat64, 0x1p600)
		}
	}
}

// state is a world such as one may hand in, of so many slots, some steps after it began: heaps of bodies, joints among them, touches with impulses.
func (s *source) state(t *testing.T, slots int) api.State {
	t.Helper()
	w := api.State{Settings: step.Usual(), Tick: s.below(9)}
	w.Settings.CalmSteps = 1 + s.below(6)
	w.Settings.CalmSpeed = s.pick(0.0625, 9)
	far := math.Sqrt(float64(slots)) * s.pick(0.8, 1.6)
	var live []int
	for slot := range slots {
		if s.once(8) {
			w.Bodies = append(w.Bodies, api.Slot{Use: uint32(s.below(4))})
			continue
		}
		w.Bodies, live = append(w.Bodies, s.body(far)), append(live, slot)
	}
	for i := 1; i < len(live); i++ {
		switch s.below(4) {
		case 0:
			w.Joints = append(w.Joints, s.joint(live[i-1], live[i]))
		case 1:
			w.Joints = append(w.Joints, api.JointSlot{Use: uint32(s.below(4))})
		}
	}
	if s.once(2) {
		s.wild(w)
	}
	w, e := step.Run(w, s.below(5))
	isErr(t, e, api.OK, "step.Run")
	return w
}

// without is a state from which bodies are taken out, with their joints and touches.
func without(w api.State, slots []int) api.State {
	w = step.Twin(w)
	for _, slot := range slots {
		w.Bodies[slot] = api.Slot{Use: w.Bodies[slot].Use}
	}
	for i, s := range w.Joints {
		if s.Live && (slices.Contains(slots, int(s.Joint.A.Slot)) || slices.Contains(slots, int(s.Joint.B.Slot))) {
			w.Joints[i] = api.JointSlot{Use: s.Use}
		}
	}
	w.Touches = slices.DeleteFunc(w.Touches, func(t api.Touch) bool {
		return slices.Contains(slots, t.Pair.A) || slices.Contains(slots, t.Pair.B)
	})
	return w
}

// others are the slots of all Free bodies that are not of an island.
func others(w api.State, slots []int) []int {
	var l []int
	for slot, s := range w.Bodies {
		if s.Live && s.Body.Kind == api.Free && !slices.Contains(slots, slot) {
			l = append(l, slot)
		}
	}
	return l
}

func isWild(w api.State, slots []int) bool {
	return slices.ContainsFunc(slots, func(slot int) bool { return body.Wild(w.Bodies[slot].Body) })
}
