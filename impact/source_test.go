package impact_test

import (
	"math"
	"slices"
	"testing"

	"tumble/api"
	"tumble/shape"
)

var (
	minus = math.Copysign(0, -1)
	none  = math.NaN()
	inf   = math.Inf(1)
	past  = math.Nextafter(api.MaxReal, inf)
	tiny  = math.SmallestNonzeroFloat64
)

func v(x, y float64) api.Vec { return api.Vec{X: x, Y: y} }

// at is a frame that is not turned.
func at(x, y float64) api.Frame { return api.Frame{At: v(x, y), Turn: 1} }

// turned is a frame at home.
func turned(q complex128) api.Frame { return api.Frame{Turn: q} }

func disc(radius, x, y float64) api.Shape {
	return api.Shape{Kind: api.Circle, Radius: radius, Points: []api.Vec{v(x, y)}}
}

func pill(radius, x, y, toX, toY float64) api.Shape {
	return api.Shape{Kind: api.Capsule, Radius: radius, Points: []api.Vec{v(x, y), v(toX, toY)}}
}

func rectangle(x, y, toX, toY float64) api.Shape {
	return api.Shape{Kind: api.Polygon, Points: []api.Vec{v(x, y), v(toX, y), v(toX, toY), v(x, toY)}}
}

// ball is the chapter's C.
func ball() api.Shape { return disc(1, 0, 0) }

// part is one that meets all others like it.
func part(s api.Shape) api.Part { return api.Part{Shape: s, Density: 1, Layer: 1, Mask: 1} }

func thing(kind uint8, f api.Frame, l ...api.Shape) api.Body {
	b := api.Body{Kind: kind, Frame: f}
	for _, s := range l {
		b.Parts = append(b.Parts, part(s))
	}
	return b
}

func free(x float64) api.Body  { return thing(api.Free, at(x, 0), ball()) }
func fixed(x float64) api.Body { return thing(api.Fixed, at(x, 0), ball()) }

// same is told by bits.
func same(a, b float64) bool {
	if math.IsNaN(a) || math.IsNaN(b) {
		return math.IsNaN(a) && math.IsNaN(b)
	}
	return math.Float64bits(a) == math.Float64bits(b)
}

func sameVec(a, b api.Vec) bool { return same(a.X, b.X) && same(a.Y, b.Y) }

func sameFrame(a, b api.Frame) bool {
	return sameVec(a.At, b.At) && same(real(a.Turn), real(b.Turn)) && same(imag(a.Turn), imag(b.Turn))
}

func isErr(t *testing.T, got, want api.Errno, call string, args ...any) {
	t.Helper()
	if got != want {
		t.Fatalf("%s%v tells %d, not %d", call, args, got, want)
	}
}

// enough tells of each kind whether it came up so often.
func enough[K comparable](t *testing.T, count map[K]int, least int, kinds ...K) {
	t.Helper()
	for _, k := range kinds {
		if count[k] < least {
			t.Errorf("too few of %v: %v", k, count)
		}
	}
}

// source makes things from a rule of whole numbers: the same ones in each run.
type source uint64

func (s *source) next() uint64 {
	*s = *s*6364136223846793005 + 1442695040888963407
	return uint64(*s >> 31)
}

func (s *source) below(n int) int { return int(s.next() % uint64(n)) }

func (s *source) coin() bool { return s.below(2) == 0 }

// part is from 0 to 1.
func (s *source) part() float64 { return float64(s.next()&(1<<30-1)) / (1 << 30) }

// about is from -far to far: every third time one of few floats, so that ends meet.
func (s *source) about(far float64) float64 {
	if s.below(3) == 0 {
		return far * []float64{-1, -0.5, minus, 0, 0.5, 1}[s.below(6)]
	}
	return far * (2*s.part() - 1)
}

func (s *source) place(far float64) api.Vec { return v(s.about(far), s.about(far)) }

func (s *source) turn() complex128 {
	if s.coin() {
		return []complex128{1, -1, 1i, -1i, 0.6 + 0.8i, -0.8 + 0.6i}[s.below(6)]
	}
	sin, cos := math.Sincos(2 * math.Pi * s.part())
	return complex(cos, sin)
}

func (s *source) frame(far float64) api.Frame {
	return api.Frame{At: s.place(far), Turn: s.turn()}
}

// way is from a frame to another one, most often past home; sometimes it only goes round, or the turns are alike, or opposite.
func (s *source) way(far float64) (f, to api.Frame) {
	f, to = s.frame(far), s.frame(far)
	switch s.below(8) {
	case 0:
		to.At = f.At
	case 1:
	default:
		to.At = v(s.about(2)-f.At.X, s.about(2)-f.At.Y)
	}
	switch s.below(4) {
	case 0:
		to.Turn = f.Turn
	case 1:
		to.Turn = -f.Turn
	}
	return f, to
}

// ring are points of a circle, rising by their angles: most often a polygon.
func (s *source) ring(n int) []api.Vec {
	middle, far := s.place(1), 0.25+s.part()
	angles := make([]float64, n)
	for i := range angles {
		angles[i] = s.part() * 2 * math.Pi
	}
	slices.Sort(angles)
	l := make([]api.Vec, n)
	for i, a := range angles {
		l[i] = v(middle.X+far*math.Cos(a), middle.Y+far*math.Sin(a))
	}
	return l
}

// shape is one that may be, of sides that are not too short to be made smaller.
func (s *source) shape() api.Shape {
	w := disc(0.25+s.part(), s.about(1), s.about(1))
	switch s.below(5) {
	case 0:
		w = pill(0.125, s.about(2), s.about(2), s.about(2), s.about(2))
	case 1, 2:
		w = api.Shape{Kind: api.Polygon, Points: s.ring(3 + s.below(6))}
	case 3:
		w = rectangle(-0.5, -0.5, 0.5, 0.5)
	}
	if shape.Check(scaledShape(w, 0x1p-8)) != api.OK {
		return rectangle(0, 0, 1, 2)
	}
	return w
}

// bits agree with one another more often than not.
func (s *source) bits() uint16 {
	if s.coin() {
		return 1<<16 - 1
	}
	return []uint16{0, 1, 2, 3, 1 << 15, 1<<15 | 1}[s.below(6)]
}

// parts have no sensor first, so that they weigh something.
func (s *source) parts() []api.Part {
	l := make([]api.Part, 1+s.below(3))
	for i := range l {
		l[i] = api.Part{Shape: s.shape(), Density: 0.5 + s.part(), Friction: s.part(), Bounce: s.part(), Sensor: i > 0 && s.below(3) == 0, Layer: s.bits(), Mask: s.bits()}
	}
	return l
}

func (s *source) body(kind uint8, f api.Frame) api.Body {
	b := api.Body{Kind: kind, Frame: f, Parts: s.parts(), Bullet: s.coin()}
	if kind != api.Fixed {
		b.Speed, b.Spin, b.Force, b.Torque = s.place(9), s.about(9), s.place(9), s.about(9)
	}
	b.Asleep = kind == api.Free && s.below(3) == 0
	return b
}

// motion are pointers to those floats of a body that may be any in a world, but the turn's; the last three make none wild.
func motion(b *api.Body) []*float64 {
	return []*float64{&b.Frame.At.X, &b.Frame.At.Y, &b.Speed.X, &b.Speed.Y, &b.Spin, &b.Force.X, &b.Force.Y, &b.Torque}
}

// other is a body that may stand in another one's way; it may be wild, or not lie.
func (s *source) other() api.Body {
	kinds := []uint8{api.Fixed, api.Fixed, api.Fixed, api.Fixed, api.Moved, api.Free}
	b := s.body(kinds[s.below(len(kinds))], s.frame(3))
	switch s.below(12) {
	case 0:
		*motion(&b)[s.below(8)] = []float64{none, inf, -inf, past, 7}[s.below(5)]
	case 1:
		b.Frame.Turn = []complex128{2, complex(none, 0), complex(0, inf), 0}[s.below(4)]
	}
	return b
}

func (s *source) others(n int) []api.Body {
	l := make([]api.Body, n)
	for i := range l {
		l[i] = s.other()
	}
	return l
}

func scaledVec(p api.Vec, by float64) api.Vec { return v(p.X*by, p.Y*by) }

func scaledShape(s api.Shape, by float64) api.Shape {
	l := slices.Clone(s.Points)
	for i := range l {
		l[i] = scaledVec(l[i], by)
	}
	return api.Shape{Kind: s.Kind, Radius: s.Radius * by, Points: l}
}

func scaledFrame(f api.Frame, by float64) api.Frame {
	return api.Frame{At: scaledVec(f.At, by), Turn: f.Turn}
}

func scaledBody(b api.Body, by float64) api.Body {
	b.Frame = scaledFrame(b.Frame, by)
	b.Parts = slices.Clone(b.Parts)
	for i := range b.Parts {
		b.Parts[i].Shape = scaledShape(b.Parts[i].Shape, by)
	}
	return b
}

func scaledBodies(l []api.Body, by float64) []api.Body {
	scaled := make([]api.Body, len(l))
	for i, b := range l {
		scaled[i] = scaledBody(b, by)
	}
	return scaled
}
