package rows_test

import (
	"math"
	"slices"
	"testing"

	"tumble/api"
)

var (
	minus = math.Copysign(0, -1)
	none  = math.NaN()
	inf   = math.Inf(1)
	past  = math.Nextafter(api.MaxReal, inf)
	most  = math.MaxFloat64
	tiny  = math.SmallestNonzeroFloat64
)

const (
	leastInt = math.MinInt
	mostInt  = math.MaxInt
	maxFirst = 1 << 30
)

func v(x, y float64) api.Vec { return api.Vec{X: x, Y: y} }

func times(a api.Vec, by float64) api.Vec { return v(a.X*by, a.Y*by) }

// upward is the chapter's row R.
func upward() api.Row {
	return api.Row{A: 0, B: 1, WayA: v(0, -1), WayB: v(0, 1), High: inf, Of: -1}
}

// falling is the chapter's still P, at any speed upward.
func falling(speed float64) api.Still {
	return api.Still{Mass: 1, Inertia: 0.5, Speed: v(0, speed)}
}

// disc is a part: a circle of the radius 1 about its body's place.
func disc() api.Part {
	s := api.Shape{Kind: api.Circle, Radius: 1, Points: []api.Vec{v(0, 0)}}
	return api.Part{Shape: s, Density: 1, Friction: 0.5, Bounce: 0.5, Layer: 1, Mask: 1}
}

func thing(kind uint8, x, y float64) api.Body {
	return api.Body{Kind: kind, Frame: api.Frame{At: v(x, y), Turn: 1}, Parts: []api.Part{disc()}}
}

// standing is a touch of two discs, the second one upon the first one.
func standing() api.Touch {
	return api.Touch{Pair: api.Pair{A: 3, B: 7}, Normal: v(0, 1), Points: []api.Point{{At: v(0, 0.75), Depth: 0.5, Push: 3, Drag: 2}}}
}

// quarter are settings by which half of a depth beyond a quarter is mended in a time.
func quarter() api.Settings {
	return api.Settings{Step: 0.5, Share: 0.25, Slop: 0.25, Threshold: 1}
}

// rowFloats are pointers to those of a row's that must be finite: the last one must not be below nought.
func rowFloats(r *api.Row) []*float64 {
	return []*float64{&r.WayA.X, &r.WayA.Y, &r.WayB.X, &r.WayB.Y, &r.TurnA, &r.TurnB, &r.Bias, &r.Push, &r.Ratio}
}

// same is told by bits.
func same(a, b float64) bool {
	if math.IsNaN(a) || math.IsNaN(b) {
		return math.IsNaN(a) && math.IsNaN(b)
	}
	return math.Float64bits(a) == math.Float64bits(b)
}

func sameVec(a, b api.Vec) bool { return same(a.X, b.X) && same(a.Y, b.Y) }

func sameRow(a, b api.Row) bool {
	l, m := rowFloats(&a), rowFloats(&b)
	for i := range l {
		if !same(*l[i], *m[i]) {
			return false
		}
	}
	return a.A == b.A && a.B == b.B && a.Of == b.Of && same(a.Low, b.Low) && same(a.High, b.High)
}

func sameRows(a, b []api.Row) bool { return slices.EqualFunc(a, b, sameRow) }

func sameStill(a, b api.Still) bool {
	return same(a.Mass, b.Mass) && same(a.Inertia, b.Inertia) && sameVec(a.Speed, b.Speed) && same(a.Spin, b.Spin)
}

func samePoint(a, b api.Point) bool {
	return sameVec(a.At, b.At) && same(a.Depth, b.Depth) && a.ID == b.ID && same(a.Push, b.Push) && same(a.Drag, b.Drag)
}

func sameTouch(a, b api.Touch) bool {
	return a.Pair == b.Pair && a.Sensor == b.Sensor && sameVec(a.Normal, b.Normal) && slices.EqualFunc(a.Points, b.Points, samePoint)
}

func touchCopy(t api.Touch) api.Touch {
	t.Points = slices.Clone(t.Points)
	return t
}

func isErr(t *testing.T, got, want api.Errno, call string, args ...any) {
	t.Helper()
	if got != want {
		t.Fatalf("%s%v tells %d, not %d", call, args, got, want)
	}
}

// enough tells of each kind whether it came up so often.
func enough[K comparable](t *testing.T, count map[K]int, least int, kinds ...K) {
	t.Helper()
	for _, k := range kinds {
		if count[k] < least {
			t.Errorf("too few of %v: %v", k, count)
		}
	}
}

// source makes things from a rule of whole numbers: the same ones in each run.
type source uint64

func (s *source) next() uint64 {
	*s = *s*6364136223846793005 + 1442695040888963407
	return uint64(*s >> 31)
}

func (s *source) below(n int) int { return int(s.next() % uint64(n)) }

func (s *source) coin() bool { return s.below(2) == 0 }

// part is from 0 to 1.
func (s *source) part() float64 { return float64(s.next()&(1<<30-1)) / (1 << 30) }

func (s *source) pick(l ...float64) float64 { return l[s.below(len(l))] }

// about is from -far to far: every third time one of few floats, so that ends meet.
func (s *source) about(far float64) float64 {
	if s.below(3) == 0 {
		return far * s.pick(-1, -0.5, minus, 0, 0.5, 1)
	}
	return far * (2*s.part() - 1)
}

func (s *source) place(far float64) api.Vec { return v(s.about(far), s.about(far)) }

// sized is a float with all of its digits, without its sign from 2^-least to nearly 2^most; at times nought.
func (s *source) sized(least, most int) float64 {
	if s.below(8) == 0 {
		return s.pick(0, minus)
	}
	f := math.Ldexp(1+s.part()+s.part()*0x1p-30, s.below(least+most)-least)
	if f >= math.Ldexp(1, most) {
		f = math.Ldexp(1, most-1)
	}
	if s.coin() {
		f = -f
	}
	return f
}

// finite is any: great, small, from among those that people write, at times so that it overflows.
func (s *source) finite() float64 {
	switch s.below(12) {
	case 0:
		return s.pick(most, -most, 0x1p600, -0x1p600, 0x1p-600, tiny, -tiny, 0x1p1000)
	case 1, 2, 3:
		return s.pick(0, minus, 1, -1, 2, -2, 0.5, 3)
	case 4:
		return s.sized(40, 40)
	}
	return s.sized(3, 4)
}

// any may be no number, or infinite.
func (s *source) any() float64 {
	if s.below(12) == 0 {
		return s.pick(none, inf, -inf)
	}
	return s.finite()
}

// row is one that may be.
func (s *source) row() api.Row {
	r := api.Row{A: s.below(3), B: 3 + s.below(3), Of: s.below(4) - 1}
	if s.coin() {
		r.A, r.B = r.B, r.A
	}
	for _, f := range rowFloats(&r) {
		*f = s.finite()
	}
	r.Ratio = math.Abs(r.Ratio)
	r.Low, r.High = s.ends()
	return r
}

// ends are in order: none, one or both of them infinite.
func (s *source) ends() (float64, float64) {
	low, high := s.finite(), s.finite()
	switch s.below(4) {
	case 0:
		return -inf, inf
	case 1:
		return 0, inf
	case 2:
		return s.pick(-inf, inf, low), inf
	}
	return min(low, high), max(low, high)
}

// still is one that may be.
func (s *source) still() api.Still {
	l := api.Still{Mass: math.Abs(s.finite()), Inertia: math.Abs(s.finite()), Speed: v(s.any(), s.any()), Spin: s.any()}
	switch s.below(5) {
	case 0:
		l.Mass, l.Inertia = 0, minus
	case 1:
		l.Mass = s.pick(0, minus)
	case 2:
		l.Inertia = s.pick(0, minus)
	}
	return l
}

// unit is a normal.
func (s *source) unit() api.Vec {
	if s.coin() {
		return []api.Vec{v(1, 0), v(0, 1), v(-1, minus), v(minus, -1), v(0.6, 0.8), v(-0.8, 0.6)}[s.below(6)]
	}
	sin, cos := math.Sincos(2 * math.Pi * s.part())
	return v(cos, sin)
}

// touch is one that may be, of bodies with so many parts.
func (s *source) touch(partsA, partsB int) api.Touch {
	t := api.Touch{Pair: api.Pair{A: s.below(9), PartA: s.below(partsA), B: 9 + s.below(9), PartB: s.below(partsB)}, Normal: s.unit()}
	if s.coin() {
		t.Pair.A, t.Pair.B = t.Pair.B, t.Pair.A
	}
	t.Points = make([]api.Point, 1+s.below(2+s.below(7)))
	for i := range t.Points {
		t.Points[i] = api.Point{At: s.place(4), Depth: math.Abs(s.about(1)), ID: uint32(s.next())<<8 + uint32(i), Push: s.about(9), Drag: s.about(9)}
	}
	return t
}

func (s *source) parts() []api.Part {
	l := make([]api.Part, 1+s.below(2)*s.below(8))
	for i := range l {
		l[i] = disc()
		l[i].Shape.Radius, l[i].Density = 0.25+s.part(), 0.5+s.part()
		l[i].Friction, l[i].Bounce = s.pick(0, minus, 0.5, 2, s.part(), api.MaxReal), s.pick(0, minus, 0.5, 1, s.part())
	}
	return l
}

func (s *source) turn() complex128 {
	u := s.unit()
	return complex(u.X, u.Y)
}

// body is one that may be kept and is not wild.
func (s *source) body() api.Body {
	b := api.Body{Kind: uint8(1 + s.below(3)), Frame: api.Frame{At: s.place(4), Turn: s.turn()}, Parts: s.parts(), Bullet: s.coin()}
	if b.Kind != api.Fixed {
		b.Speed, b.Spin, b.Force, b.Torque = s.place(9), s.about(9), s.place(9), s.about(9)
	}
	b.Asleep = b.Kind == api.Free && s.below(3) == 0
	if s.below(9) == 0 {
		setMotion(&b, s.below(motion), s.pick(past, most, -most, 0x1p600, 3, tiny))
	}
	return b
}

// motion is how many floats of a body may be any in a world: the last three make none wild.
const motion = 10

func setMotion(b *api.Body, i int, f float64) {
	switch i {
	case 0:
		b.Frame.Turn = complex(f, imag(b.Frame.Turn))
	case 1:
		b.Frame.Turn = complex(real(b.Frame.Turn), f)
	default:
		*[]*float64{&b.Frame.At.X, &b.Frame.At.Y, &b.Speed.X, &b.Speed.Y, &b.Spin, &b.Force.X, &b.Force.Y, &b.Torque}[i-2] = f
	}
}

// settings are such as Touch takes; those that it does not ask for may be wrong.
func (s *source) settings() api.Settings {
	set := quarter()
	if s.coin() {
		set = api.Settings{
			Step: s.pick(api.MinReal, 1.0/64, 1.0/60, 0.3, api.MaxReal), Share: s.pick(minus, 0, tiny, 0.1, 0.2, 1),
			Slop: s.pick(minus, 0, tiny, 0.25, s.part(), api.MaxReal), Threshold: s.pick(minus, 0, tiny, 2, s.part(), api.MaxReal),
		}
	}
	set.Gravity, set.Rounds, set.CalmSpeed, set.CalmSpin, set.CalmSteps = v(none, inf), -7, none, -1, -1
	return set
}
