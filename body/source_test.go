package body_test

import (
	"math"
	"slices"
	"testing"

	"tumble/api"
	"tumble/shape"
)

var (
	minus = math.Copysign(0, -1)
	none  = math.NaN()
	inf   = math.Inf(1)
	past  = math.Nextafter(api.MaxReal, inf)
	short = math.Nextafter(api.MinReal, 0)
	tiny  = 0x1p-1074
	most  = math.MaxFloat64
)

func v(x, y float64) api.Vec { return api.Vec{X: x, Y: y} }

// points are told by their parts, one after the other.
func points(l ...float64) []api.Vec {
	var p []api.Vec
	for i := 0; i < len(l); i += 2 {
		p = append(p, v(l[i], l[i+1]))
	}
	return p
}

// disc, pill and convex are the three kinds, their points told by parts.
func disc(radius float64, l ...float64) api.Shape {
	return api.Shape{Kind: api.Circle, Radius: radius, Points: points(l...)}
}

func pill(radius float64, l ...float64) api.Shape {
	return api.Shape{Kind: api.Capsule, Radius: radius, Points: points(l...)}
}

func convex(l ...float64) api.Shape { return api.Shape{Kind: api.Polygon, Points: points(l...)} }

func square() api.Shape { return convex(0, 0, 2, 0, 2, 2, 0, 2) }

// flat and bad may be shapes, but poly refuses to weigh the one, mass the other.
func flat() api.Shape {
	return convex(0x1.278313b5d9e89p+01, 0x1.09b0d5290bb53p+00, 0x1.1ca300c4f11e4p+00, 0x1.ffd36bb9a29a4p-02, 0x1.dec486c1021e8p-03, 0x1.ae74103e7e764p-04, 0x1.6376b12150c52p-01, 0x1.3f97a8fb051e2p-02)
}

func bad() api.Shape {
	return convex(0x1.0ea4d6285e35bp-01, 0x1.3f649492814fap+00, 0x1.51319d66d0d5cp-07, 0x1.8dee0ff11b1a6p-06, 0x1.1177dbbdbe2fp-08, 0x1.42b9d5a30e058p-07)
}

func part(s api.Shape, density float64) api.Part { return api.Part{Shape: s, Density: density} }

func sensor(s api.Shape, density float64) api.Part {
	return api.Part{Shape: s, Density: density, Sensor: true}
}

// thing is a body at home, of these parts.
func thing(kind uint8, l ...api.Part) api.Body {
	return api.Body{Kind: kind, Frame: api.Frame{Turn: 1}, Parts: l}
}

// The oracle rounds each operation by itself: a call that is not inlined can't be worked out as one with the next.
//
//go:noinline
func add(a, b float64) float64 { return a + b }

//go:noinline
func sub(a, b float64) float64 { return a - b }

//go:noinline
func mul(a, b float64) float64 { return a * b }

//go:noinline
func div(a, b float64) float64 { return a / b }

func less(a, b api.Vec) api.Vec { return v(sub(a.X, b.X), sub(a.Y, b.Y)) }

func cross(a, b api.Vec) float64 { return sub(mul(a.X, b.Y), mul(a.Y, b.X)) }

// same is told by bits, apart from what the package does.
func same(a, b float64) bool {
	if math.IsNaN(a) || math.IsNaN(b) {
		return math.IsNaN(a) && math.IsNaN(b)
	}
	return math.Float64bits(a) == math.Float64bits(b)
}

func sameVec(a, b api.Vec) bool { return same(a.X, b.X) && same(a.Y, b.Y) }

func sameBox(a, b api.Box) bool { return sameVec(a.Low, b.Low) && sameVec(a.High, b.High) }

func sameFrame(a, b api.Frame) bool {
	return sameVec(a.At, b.At) && same(real(a.Turn), real(b.Turn)) && same(imag(a.Turn), imag(b.Turn))
}

func samePart(a, b api.Part) bool {
	return a.Shape.Kind == b.Shape.Kind && same(a.Shape.Radius, b.Shape.Radius) && slices.EqualFunc(a.Shape.Points, b.Shape.Points, sameVec) &&
		same(a.Density, b.Density) && same(a.Friction, b.Friction) && same(a.Bounce, b.Bounce) && a.Sensor == b.Sensor && a.Layer == b.Layer && a.Mask == b.Mask
}

func sameBody(a, b api.Body) bool {
	return a.Kind == b.Kind && sameFrame(a.Frame, b.Frame) && sameVec(a.Speed, b.Speed) && same(a.Spin, b.Spin) && sameVec(a.Force, b.Force) && same(a.Torque, b.Torque) &&
		same(a.Damp, b.Damp) && same(a.SpinDamp, b.SpinDamp) && slices.EqualFunc(a.Parts, b.Parts, samePart) && a.Asleep == b.Asleep && a.Calm == b.Calm && a.Bullet == b.Bullet
}

func sameStill(a, b api.Still) bool {
	return same(a.Mass, b.Mass) && same(a.Inertia, b.Inertia) && sameVec(a.Speed, b.Speed) && same(a.Spin, b.Spin)
}

// copyOf shares nothing with a body.
func copyOf(b api.Body) api.Body {
	b.Parts = slices.Clone(b.Parts)
	for i := range b.Parts {
		b.Parts[i].Shape.Points = slices.Clone(b.Parts[i].Shape.Points)
	}
	return b
}

func isErr(t *testing.T, got, want api.Errno, call string, args ...any) {
	t.Helper()
	if got != want {
		t.Fatalf("%s%v tells %d, not %d", call, args, got, want)
	}
}

func isBody(t *testing.T, got, want api.Body, call string, args ...any) {
	t.Helper()
	if !sameBody(got, want) {
		t.Fatalf("%s%v is\n%v, not\n%v", call, args, got, want)
	}
}

// enough tells of each kind whether it came up so often.
func enough[K comparable](t *testing.T, count map[K]int, least int, kinds ...K) {
	t.Helper()
	for _, k := range kinds {
		if count[k] < least {
			t.Errorf("too few of %v: %v", k, count)
		}
	}
}

// source makes floats from a rule of whole numbers: the same ones in each run.
type source uint64

func (s *source) next() uint64 {
	*s = *s*6364136223846793005 + 1442695040888963407
	return uint64(*s >> 31)
}

func (s *source) below(n int) int { return int(s.next() % uint64(n)) }

// plain has all its bits in use, and is from some 2^-20 to 2^20.
func (s *source) plain() float64 {
	whole := int64(s.next()<<20^s.next())&(1<<53-1) - 1<<52
	return math.Ldexp(float64(whole), s.below(40)-72)
}

// part is from 0 to 1.
func (s *source) part() float64 { return float64(s.next()&(1<<30-1)) / (1 << 30) }

// few are from few floats, noughts among them.
func (s *source) few() float64 { return []float64{-2, -1, minus, 0, 1, 2}[s.below(6)] }

// edge is a float at which something may change, wrong ones among them.
func (s *source) edge() float64 {
	return []float64{none, -inf, -most, -past, -api.MaxReal, -1, -tiny, minus, 0, tiny, short, api.MinReal, 1, math.Nextafter(1, 2), api.MaxReal, past, most, inf}[s.below(18)]
}

// float is a real.
func (s *source) float() float64 {
	switch s.below(8) {
	case 0:
		return []float64{-api.MaxReal, api.MaxReal, tiny, -tiny}[s.below(4)]
	case 1, 2:
		return s.few()
	}
	return s.plain()
}

func (s *source) place() api.Vec { return v(s.float(), s.float()) }

// middling is a place not so far away that shapes would be spoiled there.
func (s *source) middling() api.Vec {
	if s.below(3) == 0 {
		return v(s.few(), s.few())
	}
	return v(64*s.part()-32, 64*s.part()-32)
}

func (s *source) turn() complex128 {
	if s.below(3) == 0 {
		return []complex128{1, -1, 1i, -1i, 0.6 + 0.8i, -0.8 + 0.6i}[s.below(6)]
	}
	sin, cos := math.Sincos(2 * math.Pi * s.part())
	return complex(cos, sin)
}

// ring are points of a circle, rising by their angles: most often a polygon.
func (s *source) ring(n int) []api.Vec {
	middle, far := s.middling(), math.Ldexp(1+s.part(), s.below(12)-6)
	angles := make([]float64, n)
	for i := range angles {
		angles[i] = s.part() * 2 * math.Pi
	}
	slices.Sort(angles)
	l := make([]api.Vec, n)
	for i, a := range angles {
		l[i] = v(middle.X+far*math.Cos(a), middle.Y+far*math.Sin(a))
	}
	return l
}

// radius is from MinReal to 2^10, most often near to 1.
func (s *source) radius() float64 {
	if s.below(4) == 0 {
		return math.Ldexp(1+s.part(), s.below(40)-30)
	}
	return math.Ldexp(1+s.part(), s.below(8)-4)
}

// shape is one that may be.
func (s *source) shape() api.Shape {
	w := api.Shape{Kind: api.Circle, Radius: s.radius(), Points: []api.Vec{s.middling()}}
	switch s.below(3) {
	case 0:
		w.Kind, w.Points = api.Capsule, append(w.Points, s.middling())
	case 1:
		w = api.Shape{Kind: api.Polygon, Radius: []float64{0, minus}[s.below(2)], Points: s.ring(3 + s.below(6))}
	}
	if shape.Check(w) != api.OK {
		return square()
	}
	return w
}

// density is above nought, but for some.
func (s *source) density() float64 {
	if s.below(8) == 0 {
		return []float64{0, minus, 1, api.MaxReal, tiny, 0x1p-1000}[s.below(6)]
	}
	return math.Abs(s.plain())
}

func (s *source) parts() []api.Part {
	l := make([]api.Part, 1+s.below(4)*s.below(3)+s.below(2))
	for i := range l {
		l[i] = api.Part{Shape: s.shape(), Density: s.density(), Friction: math.Abs(s.float()), Bounce: s.part(), Sensor: s.below(4) == 0, Layer: uint16(s.next()), Mask: uint16(s.next())}
		if s.below(4) == 0 {
			l[i].Bounce = []float64{minus, 0, tiny, 1}[s.below(4)]
		}
	}
	return l
}

// damp is nought, often.
func (s *source) damp() float64 {
	if s.below(3) == 0 {
		return []float64{0, minus}[s.below(2)]
	}
	return math.Abs(s.float())
}

// body is one that most often may be.
func (s *source) body() api.Body {
	b := api.Body{
		Kind: uint8(1 + s.below(3)), Frame: api.Frame{At: s.middling(), Turn: s.turn()},
		Speed: s.place(), Spin: s.float(), Force: s.place(), Torque: s.float(), Damp: s.damp(), SpinDamp: s.damp(),
		Parts: s.parts(), Calm: s.below(3) * s.below(1<<20), Bullet: s.below(2) == 0,
	}
	if s.below(4) == 0 {
		b.Frame.At = s.place()
	}
	if s.below(2) == 0 {
		b.Kind = api.Free
	}
	if s.below(16) == 0 {
		b.Calm = 1 << 53
	}
	b.Asleep = b.Kind == api.Free && s.below(3) == 0
	if b.Kind == api.Fixed {
		b.Speed, b.Spin = v(minus, 0), minus
	}
	return b
}

// motion are pointers to those floats of a body that may be any in a world; the turn's are set by setTurn.
func motion(b *api.Body) []*float64 {
	return []*float64{&b.Frame.At.X, &b.Frame.At.Y, &b.Speed.X, &b.Speed.Y, &b.Spin, &b.Force.X, &b.Force.Y, &b.Torque}
}

func setTurn(b *api.Body, i int, f float64) {
	if i == 0 {
		b.Frame.Turn = complex(f, imag(b.Frame.Turn))
	} else {
		b.Frame.Turn = complex(real(b.Frame.Turn), f)
	}
}

// worldly is a body as a world may have it: floats of its motion may be any.
func (s *source) worldly() api.Body {
	b := s.body()
	if s.below(2) == 0 {
		return b
	}
	for range 1 + s.below(3) {
		l := motion(&b)
		if i := s.below(len(l) + 2); i < len(l) {
			*l[i] = s.edge()
		} else {
			setTurn(&b, i-len(l), s.edge())
		}
	}
	return b
}

// spoil makes something of a body wrong, perhaps.
func (s *source) spoil(b *api.Body) {
	if len(b.Parts) > 0 && s.below(2) == 0 {
		s.spoilPart(&b.Parts[s.below(len(b.Parts))])
		return
	}
	switch s.below(10) {
	case 0:
		b.Kind = uint8(s.below(6))
	case 1:
		b.Damp = s.edge()
	case 2:
		b.SpinDamp = s.edge()
	case 3:
		b.Asleep = true
	case 4:
		b.Calm = []int{-1 << 63, -1, 0, 1, 1 << 53, 1<<53 + 1, 1<<63 - 1}[s.below(7)]
	case 5:
		b.Parts = make([]api.Part, s.below(12))
	case 6:
		setTurn(b, s.below(2), s.edge())
	default:
		l := motion(b)
		*l[s.below(len(l))] = s.edge()
	}
}

func (s *source) spoilPart(p *api.Part) {
	switch s.below(9) {
	case 0:
		p.Shape.Kind = uint8(s.below(6))
	case 1:
		p.Shape.Radius = s.edge()
	case 2:
		p.Shape.Points = append(p.Shape.Points, s.middling())
	case 3:
		if n := len(p.Shape.Points); n > 0 {
			p.Shape.Points[s.below(n)] = v(s.edge(), s.few())
		}
	case 4:
		p.Density = s.edge()
	case 5:
		p.Friction = s.edge()
	case 6:
		p.Bounce = s.edge()
	case 7:
		p.Shape = []api.Shape{flat(), bad()}[s.below(2)]
	case 8:
		p.Sensor = true
	}
}

// time is one that Push and Go take.
func (s *source) time() float64 {
	if s.below(4) == 0 {
		return []float64{api.MinReal, api.MaxReal, 1, 0.5}[s.below(4)]
	}
	return math.Ldexp(1+s.part(), s.below(12)-10)
}

// wrongReals are no reals.
func wrongReals() []float64 { return []float64{none, inf, -inf, past, -past, most, -most} }

// wrongTimes are no times.
func wrongTimes() []float64 {
	return []float64{none, inf, -inf, past, most, short, tiny, 0, minus, -1, -api.MinReal, -api.MaxReal}
}
