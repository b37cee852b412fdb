package joint_test

import (
	"math"
	"slices"
	"testing"

	"tumble/api"
	"tumble/shape"
)

var (
	minus = math.Copysign(0, -1)
	none  = math.NaN()
	inf   = math.Inf(1)
	past  = math.Nextafter(api.MaxReal, inf)
	most  = math.MaxFloat64
	tiny  = math.SmallestNonzeroFloat64
)

const (
	leastInt = math.MinInt
	mostInt  = math.MaxInt
)

var kinds = []uint8{api.Pin, api.Rod, api.Rail, api.Weld, api.Gear}

func v(x, y float64) api.Vec { return api.Vec{X: x, Y: y} }

func disc(radius, x, y float64) api.Shape {
	return api.Shape{Kind: api.Circle, Radius: radius, Points: []api.Vec{v(x, y)}}
}

func rectangle(x, y, toX, toY float64) api.Shape {
	return api.Shape{Kind: api.Polygon, Points: []api.Vec{v(x, y), v(toX, y), v(toX, toY), v(x, toY)}}
}

// thing is a body with one circle about its place.
func thing(kind uint8, x, y float64, turn complex128) api.Body {
	p := api.Part{Shape: disc(1, 0, 0), Density: 1}
	return api.Body{Kind: kind, Frame: api.Frame{At: v(x, y), Turn: turn}, Parts: []api.Part{p}}
}

// ball is the chapter's X and Y.
func ball(x, y float64) api.Body { return thing(api.Free, x, y, 1) }

func turned(x, y float64, turn complex128) api.Body { return thing(api.Free, x, y, turn) }

// plain is a joint of a kind with all that it must have, and no more.
func plain(kind uint8) api.Joint {
	j := api.Joint{Kind: kind, A: api.Handle{Slot: 0, Use: 1}, B: api.Handle{Slot: 1, Use: 1}}
	switch kind {
	case api.Rail:
		j.Axis = v(1, 0)
	case api.Gear:
		j.Ratio = 1
	}
	return j
}

// pin is the chapter's P.
func pin() api.Joint {
	j := plain(api.Pin)
	j.AtA, j.AtB = v(2, 0), v(-1, 0)
	return j
}

// halves are the chapter's settings: what is off is mended as fast as it is great.
func halves() api.Settings { return api.Settings{Step: 0.5, Share: 0.5} }

// floats are pointers to all of a joint's.
func floats(j *api.Joint) []*float64 {
	return []*float64{&j.AtA.X, &j.AtA.Y, &j.AtB.X, &j.AtB.Y, &j.Axis.X, &j.Axis.Y, &j.Rest, &j.Ratio, &j.Speed, &j.Most, &j.Low, &j.High, &j.Push[0], &j.Push[1], &j.Push[2]}
}

// same is told by bits.
func same(a, b float64) bool {
	if math.IsNaN(a) || math.IsNaN(b) {
		return math.IsNaN(a) && math.IsNaN(b)
	}
	return math.Float64bits(a) == math.Float64bits(b)
}

func sameVec(a, b api.Vec) bool { return same(a.X, b.X) && same(a.Y, b.Y) }

func sameRow(a, b api.Row) bool {
	return a.A == b.A && a.B == b.B && sameVec(a.WayA, b.WayA) && sameVec(a.WayB, b.WayB) && same(a.TurnA, b.TurnA) && same(a.TurnB, b.TurnB) &&
		same(a.Bias, b.Bias) && same(a.Low, b.Low) && same(a.High, b.High) && same(a.Push, b.Push) && a.Of == b.Of && same(a.Ratio, b.Ratio)
}

func sameRows(a, b []api.Row) bool { return slices.EqualFunc(a, b, sameRow) }

func sameJoint(a, b api.Joint) bool {
	l, m := floats(&a), floats(&b)
	for i := range l {
		if !same(*l[i], *m[i]) {
			return false
		}
	}
	return a.Kind == b.Kind && a.A == b.A && a.B == b.B && a.Motor == b.Motor && a.Limit == b.Limit
}

func samePart(a, b api.Part) bool {
	return a.Shape.Kind == b.Shape.Kind && same(a.Shape.Radius, b.Shape.Radius) && slices.EqualFunc(a.Shape.Points, b.Shape.Points, sameVec) &&
		same(a.Density, b.Density) && same(a.Friction, b.Friction) && same(a.Bounce, b.Bounce) && a.Sensor == b.Sensor && a.Layer == b.Layer && a.Mask == b.Mask
}

func sameBody(a, b api.Body) bool {
	return a.Kind == b.Kind && sameVec(a.Frame.At, b.Frame.At) && same(real(a.Frame.Turn), real(b.Frame.Turn)) && same(imag(a.Frame.Turn), imag(b.Frame.Turn)) &&
		sameVec(a.Speed, b.Speed) && same(a.Spin, b.Spin) && sameVec(a.Force, b.Force) && same(a.Torque, b.Torque) &&
		same(a.Damp, b.Damp) && same(a.SpinDamp, b.SpinDamp) && slices.EqualFunc(a.Parts, b.Parts, samePart) && a.Asleep == b.Asleep && a.Calm == b.Calm && a.Bullet == b.Bullet
}

// bodyCopy shares nothing with what it is a copy of.
func bodyCopy(b api.Body) api.Body {
	b.Parts = slices.Clone(b.Parts)
	for i := range b.Parts {
		b.Parts[i].Shape.Points = slices.Clone(b.Parts[i].Shape.Points)
	}
	return b
}

func isErr(t *testing.T, got, want api.Errno, call string, args ...any) {
	t.Helper()
	if got != want {
		t.Fatalf("%s%v tells %d, not %d", call, args, got, want)
	}
}

// enough tells of each kind whether it came up so often.
func enough[K comparable](t *testing.T, count map[K]int, least int, kinds ...K) {
	t.Helper()
	for _, k := range kinds {
		if count[k] < least {
			t.Errorf("too few of %v: %v", k, count)
		}
	}
}

// source makes things from a rule of whole numbers: the same ones in each run.
type source uint64

func (s *source) next() uint64 {
	*s = *s*6364136223846793005 + 1442695040888963407
	return uint64(*s >> 31)
}

func (s *source) below(n int) int { return int(s.next() % uint64(n)) }

func (s *source) coin() bool { return s.below(2) == 0 }

// part is from 0 to 1.
func (s *source) part() float64 { return float64(s.next()&(1<<30-1)) / (1 << 30) }

// about is from -far to far: every third time one of few floats, so that ends meet.
func (s *source) about(far float64) float64 {
	if s.below(3) == 0 {
		return far * []float64{-1, -0.5, minus, 0, 0.5, 1}[s.below(6)]
	}
	return far * (2*s.part() - 1)
}

func (s *source) place(far float64) api.Vec { return v(s.about(far), s.about(far)) }

func (s *source) turn() complex128 {
	if s.coin() {
		return []complex128{1, -1, 1i, -1i, 0.6 + 0.8i, -0.8 + 0.6i}[s.below(6)]
	}
	sin, cos := math.Sincos(2 * math.Pi * s.part())
	return complex(cos, sin)
}

// shape is one that may be.
func (s *source) shape() api.Shape {
	w := disc(0.25+s.part(), s.about(2), s.about(2))
	switch s.below(3) {
	case 0:
		w.Kind, w.Points = api.Capsule, append(w.Points, s.place(2))
	case 1:
		w = rectangle(-0.5, -0.5, 0.5, 0.5)
	}
	if shape.Check(w) != api.OK {
		return rectangle(0, 0, 1, 2)
	}
	return w
}

func (s *source) parts() []api.Part {
	l := make([]api.Part, 1+s.below(2)*s.below(3))
	for i := range l {
		l[i] = api.Part{Shape: s.shape(), Density: 0.5 + s.part(), Friction: s.part(), Bounce: s.part(), Layer: 1, Mask: 1}
	}
	return l
}

// body is one that may be kept, not farther from home than that.
func (s *source) body(far float64) api.Body {
	b := api.Body{Kind: uint8(1 + s.below(3)), Frame: api.Frame{At: s.place(far), Turn: s.turn()}, Parts: s.parts(), Bullet: s.coin()}
	if b.Kind != api.Fixed {
		b.Speed, b.Spin, b.Force, b.Torque = s.place(9), s.about(9), s.place(9), s.about(9)
	}
	b.Asleep = b.Kind == api.Free && s.below(3) == 0
	return b
}

// motion are those floats of a body that may be any in a world: the last three make none wild.
const motion = 10

func set(b *api.Body, i int, f float64) {
	switch i {
	case 0:
		b.Frame.Turn = complex(f, imag(b.Frame.Turn))
	case 1:
		b.Frame.Turn = complex(real(b.Frame.Turn), f)
	default:
		*[]*float64{&b.Frame.At.X, &b.Frame.At.Y, &b.Speed.X, &b.Speed.Y, &b.Spin, &b.Force.X, &b.Force.Y, &b.Torque}[i-2] = f
	}
}

// worldly is a body as a world may have it: floats of its motion may be any.
func (s *source) worldly(far float64) api.Body {
	b := s.body(far)
	if s.below(3) == 0 {
		set(&b, s.below(motion), s.wide())
	}
	return b
}

// wide is a float that no place of a small world has.
func (s *source) wide() float64 {
	return []float64{none, inf, -inf, past, -past, most, -most, 0x1p600, api.MaxReal, 2, 0, minus, tiny}[s.below(13)]
}

// spoil makes something of a body wrong: it may not be kept any more.
func (s *source) spoil(b *api.Body) {
	p := &b.Parts[s.below(len(b.Parts))]
	switch s.below(8) {
	case 0:
		b.Kind = []uint8{0, 4, 255}[s.below(3)]
	case 1:
		b.SpinDamp = []float64{-1, none, inf, past}[s.below(4)]
	case 2:
		b.Calm = []int{leastInt, -1, 1<<53 + 1}[s.below(3)]
	case 3:
		b.Parts = make([]api.Part, []int{0, api.MaxParts + 1}[s.below(2)])
	case 4:
		p.Shape.Kind = []uint8{0, 4}[s.below(2)]
	case 5:
		p.Shape.Points = append(slices.Clone(p.Shape.Points), make([]api.Vec, 9)...)
	case 6:
		p.Bounce = []float64{-1, none, 2}[s.below(3)]
	case 7:
		b.Kind, b.Asleep = api.Free, false
		for i := range b.Parts {
			b.Parts[i].Density = 0
		}
	}
}

// joint is one that may be.
func (s *source) joint() api.Joint {
	j := plain(kinds[s.below(len(kinds))])
	slot := uint32(s.below(4))
	j.A, j.B = api.Handle{Slot: slot, Use: uint32(s.below(3))}, api.Handle{Slot: slot + 1, Use: uint32(s.below(3))}
	if s.coin() {
		j.A, j.B = j.B, j.A
	}
	j.AtA, j.AtB = s.place(3), s.place(3)
	q := s.turn()
	j.Axis = v(real(q), imag(q))
	j.Rest, j.Speed, j.Most = math.Abs(s.about(4)), s.about(4), math.Abs(s.about(16))
	if j.Kind == api.Weld && s.coin() {
		j.Rest = -j.Rest
	}
	if j.Ratio = s.about(3); math.Abs(j.Ratio) < api.MinReal {
		j.Ratio = 1
	}
	j.Limit, j.Motor = s.coin(), s.coin()
	j.Low, j.High = s.ends(j.Kind)
	for i := range j.Push {
		j.Push[i] = s.about(9)
	}
	return j
}

// ends are such as a joint of that kind comes to lie below, between, above.
func (s *source) ends(kind uint8) (float64, float64) {
	low, high := s.about(1), s.about(1)
	switch kind {
	case api.Rod:
		low, high = math.Abs(s.about(8)), math.Abs(s.about(8))
	case api.Rail:
		low, high = s.about(6), s.about(6)
	}
	return min(low, high), max(low, high)
}

// settings are such as Rows takes.
func (s *source) settings() api.Settings {
	if s.coin() {
		return halves()
	}
	steps := []float64{api.MinReal, 1.0 / 64, 1.0 / 60, 0.3, 1, 3, api.MaxReal}
	shares := []float64{minus, 0, tiny, 0.1, 0.2, 0.5, 1}
	return api.Settings{Step: steps[s.below(len(steps))], Share: shares[s.below(len(shares))], Gravity: v(none, inf), Rounds: -1}
}
