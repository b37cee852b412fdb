package mass_test

import (
	"math"
	"slices"
	"testing"

	"tumble/api"
	"tumble/mass"
	"tumble/poly"
	"tumble/shape"
)

var (
	minus = math.Copysign(0, -1)
	none  = math.NaN()
	inf   = math.Inf(1)
	past  = math.Nextafter(api.MaxReal, inf)
	short = math.Nextafter(api.MinReal, 0)
	tiny  = 0x1p-1074
	most  = math.MaxFloat64
	// round is kept in a variable, so that nothing made of it is worked out ahead of the run.
	round = 3.141592653589793
)

func v(x, y float64) api.Vec { return api.Vec{X: x, Y: y} }

// points are told by their parts, one after the other.
func points(l ...float64) []api.Vec {
	var p []api.Vec
	for i := 0; i < len(l); i += 2 {
		p = append(p, v(l[i], l[i+1]))
	}
	return p
}

// disc, pill and convex are the three kinds, their points told by parts.
func disc(radius float64, l ...float64) api.Shape {
	return api.Shape{Kind: api.Circle, Radius: radius, Points: points(l...)}
}

func pill(radius float64, l ...float64) api.Shape {
	return api.Shape{Kind: api.Capsule, Radius: radius, Points: points(l...)}
}

func convex(l ...float64) api.Shape { return api.Shape{Kind: api.Polygon, Points: points(l...)} }

func square() api.Shape { return convex(0, 0, 2, 0, 2, 2, 0, 2) }

// weight is a mass, told by how much, how hard to turn, and where.
func weight(m, inertia, x, y float64) api.Mass {
	return api.Mass{Mass: m, Inertia: inertia, Centre: v(x, y)}
}

func scaled(s api.Shape, by float64) api.Shape {
	l := slices.Clone(s.Points)
	for i := range l {
		l[i] = v(l[i].X*by, l[i].Y*by)
	}
	return api.Shape{Kind: s.Kind, Radius: s.Radius * by, Points: l}
}

// The oracle rounds each operation by itself: a call that is not inlined can't be worked out as one with the next.
//
//go:noinline
func add(a, b float64) float64 { return a + b }

//go:noinline
func sub(a, b float64) float64 { return a - b }

//go:noinline
func mul(a, b float64) float64 { return a * b }

//go:noinline
func div(a, b float64) float64 { return a / b }

// product and sum go from the left, and begin with the first one.
func product(l ...float64) float64 {
	p := l[0]
	for _, f := range l[1:] {
		p = mul(p, f)
	}
	return p
}

func sum(l ...float64) float64 {
	p := l[0]
	for _, f := range l[1:] {
		p = add(p, f)
	}
	return p
}

func less(a, b api.Vec) api.Vec { return v(sub(a.X, b.X), sub(a.Y, b.Y)) }

func dot(a, b api.Vec) float64 { return add(mul(a.X, b.X), mul(a.Y, b.Y)) }

func cross(a, b api.Vec) float64 { return sub(mul(a.X, b.Y), mul(a.Y, b.X)) }

func square2(a api.Vec) float64 { return dot(a, a) }

// same is told by bits, apart from what the package does.
func same(a, b float64) bool {
	if math.IsNaN(a) || math.IsNaN(b) {
		return math.IsNaN(a) && math.IsNaN(b)
	}
	return math.Float64bits(a) == math.Float64bits(b)
}

func sameVec(a, b api.Vec) bool { return same(a.X, b.X) && same(a.Y, b.Y) }

func sameMass(a, b api.Mass) bool {
	return same(a.Mass, b.Mass) && same(a.Inertia, b.Inertia) && sameVec(a.Centre, b.Centre)
}

func samePart(a, b api.Part) bool {
	return a.Shape.Kind == b.Shape.Kind && same(a.Shape.Radius, b.Shape.Radius) && slices.EqualFunc(a.Shape.Points, b.Shape.Points, sameVec) &&
		same(a.Density, b.Density) && same(a.Friction, b.Friction) && same(a.Bounce, b.Bounce) && a.Sensor == b.Sensor && a.Layer == b.Layer && a.Mask == b.Mask
}

func isErr(t *testing.T, got, want api.Errno, call string, args ...any) {
	t.Helper()
	if got != want {
		t.Fatalf("%s%v tells %d, not %d", call, args, got, want)
	}
}

func isMass(t *testing.T, got, want api.Mass, call string, args ...any) {
	t.Helper()
	if !sameMass(got, want) {
		t.Fatalf("%s%v is %v, not %v", call, args, got, want)
	}
}

func isFloat(t *testing.T, got, want float64, call string, args ...any) {
	t.Helper()
	if !same(got, want) {
		t.Fatalf("%s%v is %v, not %v", call, args, got, want)
	}
}

// enough tells of each kind whether it came up so often.
func enough[K comparable](t *testing.T, count map[K]int, least int, kinds ...K) {
	t.Helper()
	for _, k := range kinds {
		if count[k] < least {
			t.Errorf("too few of %v: %v", k, count)
		}
	}
}

// source makes floats from a rule of whole numbers: the same ones in each run.
type source uint64

func (s *source) next() uint64 {
	*s = *s*6364136223846793005 + 1442695040888963407
	return uint64(*s >> 31)
}

func (s *source) below(n int) int { return int(s.next() % uint64(n)) }

// plain has all its bits in use, and is from some 2^-20 to 2^20.
func (s *source) plain() float64 {
	whole := int64(s.next()<<20^s.next())&(1<<53-1) - 1<<52
	return math.Ldexp(float64(whole), s.below(40)-72)
}

// part is from 0 to 1.
func (s *source) part() float64 { return float64(s.next()&(1<<30-1)) / (1 << 30) }

// few are from few floats, noughts among them.
func (s *source) few() float64 { return []float64{-2, -1, minus, 0, 1, 2}[s.below(6)] }

// edge is a float at which something may change, wrong ones among them.
func (s *source) edge() float64 {
	return []float64{none, -inf, -past, -api.MaxReal, -1, -tiny, minus, 0, tiny, short, api.MinReal, 1, api.MaxReal, past, most, inf}[s.below(16)]
}

func (s *source) place() api.Vec {
	if s.below(3) == 0 {
		return v(s.few(), s.few())
	}
	return v(s.plain(), s.plain())
}

// radius is from MinReal to 2^20.
func (s *source) radius() float64 { return math.Ldexp(1+s.part(), s.below(50)-30) }

// density is from 0 on, noughts and the ends among it.
func (s *source) density() float64 {
	if s.below(6) == 0 {
		return []float64{0, minus, 1, api.MaxReal, tiny, 0x1p-1000}[s.below(6)]
	}
	return math.Abs(s.plain())
}

// ring are points of a circle, rising by their angles: most often a polygon.
func (s *source) ring(n int) []api.Vec {
	middle, far := s.place(), math.Ldexp(1+s.part(), s.below(30)-15)
	angles := make([]float64, n)
	for i := range angles {
		angles[i] = s.part() * 2 * math.Pi
	}
	slices.Sort(angles)
	l := make([]api.Vec, n)
	for i, a := range angles {
		l[i] = v(middle.X+far*math.Cos(a), middle.Y+far*math.Sin(a))
	}
	return l
}

// flat are points so near to one line that rounding decides what they are.
func (s *source) flat(n int) []api.Vec {
	way := v(s.part(), s.part())
	l := make([]api.Vec, n)
	for i := range l {
		far := 4 * s.part()
		l[i] = v(way.X*far, way.Y*far)
		if s.below(2) == 0 {
			l[i].X = math.Nextafter(l[i].X, inf)
		}
	}
	return l
}

// coarse are points of few floats: boxes and triangles with noughts of both signs.
func (s *source) coarse() []api.Vec {
	l := make([]api.Vec, 3+s.below(2))
	for i := range l {
		l[i] = v(s.few(), s.few())
	}
	return l
}

func (s *source) corners() []api.Vec {
	switch s.below(8) {
	case 0, 1:
		return s.flat(3 + s.below(2))
	case 2, 3, 4:
		return s.coarse()
	}
	return s.ring(3 + s.below(6))
}

// shape is one that most often may be.
func (s *source) shape() api.Shape {
	switch s.below(4) {
	case 0:
		return api.Shape{Kind: api.Circle, Radius: s.radius(), Points: []api.Vec{s.place()}}
	case 1:
		return api.Shape{Kind: api.Capsule, Radius: s.radius(), Points: []api.Vec{s.place(), s.place()}}
	}
	return api.Shape{Kind: api.Polygon, Radius: []float64{0, minus}[s.below(2)], Points: s.corners()}
}

// spoiled is one of which something may be wrong.
func (s *source) spoiled() api.Shape {
	w := s.shape()
	for range 1 + s.below(2) {
		switch s.below(5) {
		case 0:
			w.Kind = uint8(s.below(6))
		case 1:
			w.Radius = s.edge()
		case 2:
			w.Points = make([]api.Vec, s.below(11))
		case 3:
			w.Points = append(w.Points, s.place())
		case 4:
			if n := len(w.Points); n > 0 {
				w.Points[s.below(n)] = v(s.edge(), s.few())
			}
		}
	}
	return w
}

// overShapes hands over shapes that may be.
func overShapes(n int, f func(s *source, w api.Shape)) {
	s := source(7)
	for range n {
		if w := s.shape(); shape.Check(w) == api.OK {
			f(&s, w)
		}
	}
}

// weight is a mass that may be.
func (s *source) weight() api.Mass {
	m := api.Mass{Mass: math.Abs(s.plain()), Inertia: math.Abs(s.plain()), Centre: s.place()}
	switch s.below(8) {
	case 0:
		m.Mass = []float64{0, minus, 1, 2, tiny, 0x1p-1000, 0x1p1000}[s.below(7)]
	case 1:
		m.Inertia = []float64{0, minus, 1, 2, tiny, 0x1p1000}[s.below(6)]
	case 2:
		m.Centre = v(s.far(), s.far())
	}
	return m
}

// far is at MaxReal, or next to it.
func (s *source) far() float64 {
	f := math.Nextafter(api.MaxReal, api.MaxReal-float64(s.below(2)))
	return []float64{-f, f}[s.below(2)]
}

func (s *source) weights(n int) []api.Mass {
	l := make([]api.Mass, n)
	for i := range l {
		l[i] = s.weight()
	}
	return l
}

// wrongs are masses that may not be.
func wrongs() []api.Mass {
	var l []api.Mass
	for _, f := range []float64{none, inf, -inf, -1, -tiny, -most} {
		l = append(l, weight(f, 1, 0, 0), weight(1, f, 0, 0))
	}
	for _, f := range []float64{none, inf, -inf, past, -past, most} {
		l = append(l, weight(1, 1, f, 0), weight(1, 1, 0, f), weight(0, 0, f, f))
	}
	return l
}

// wantCheck goes by the chapter's words of a mass that may be.
func wantCheck(m api.Mass) api.Errno {
	for _, f := range []float64{m.Mass, m.Inertia} {
		if math.IsNaN(f) || math.IsInf(f, 0) || f < 0 {
			return api.ErrMass
		}
	}
	for _, f := range []float64{m.Centre.X, m.Centre.Y} {
		if math.IsNaN(f) || math.Abs(f) > api.MaxReal {
			return api.ErrMass
		}
	}
	return api.OK
}

func wantChecked(m api.Mass) (api.Mass, api.Errno) {
	if e := wantCheck(m); e != api.OK {
		return api.Mass{}, e
	}
	return m, api.OK
}

func TestP8_1Check(t *testing.T) {
	count := map[api.Errno]int{}
	s := source(1)
	for range 40000 {
		m := s.weight()
		for range s.below(3) {
			switch s.below(4) {
			case 0:
				m.Mass = s.edge()
			case 1:
				m.Inertia = s.edge()
			case 2:
				m.Centre.X = s.edge()
			case 3:
				m.Centre.Y = s.edge()
			}
		}
		want := wantCheck(m)
		count[want]++
		isErr(t, mass.Check(m), want, "Check", m)
	}
	enough(t, count, 5000, api.OK, api.ErrMass)
}

func TestP8_1CheckEdges(t *testing.T) {
	for _, m := range []api.Mass{
		{}, weight(minus, minus, minus, minus), weight(most, most, api.MaxReal, -api.MaxReal), weight(tiny, tiny, -api.MaxReal, api.MaxReal), weight(0, 5, 1, 2), weight(5, 0, 1, 2),
	} {
		isErr(t, mass.Check(m), api.OK, "Check", m)
	}
	for _, m := range wrongs() {
		isErr(t, mass.Check(m), api.ErrMass, "Check", m)
	}
}

// wantCircle, wantCapsule and wantPolygon go by P8.2's words.
func wantCircle(s api.Shape, density float64) api.Mass {
	r := s.Radius
	m := mul(density, mul(round, mul(r, r)))
	return api.Mass{Mass: m, Inertia: product(m, mul(r, r), 0.5), Centre: s.Points[0]}
}

func wantCapsule(s api.Shape, density float64) api.Mass {
	r, a, b := s.Radius, s.Points[0], s.Points[1]
	n := math.Sqrt(square2(less(b, a)))
	p := mul(density, product(2, r, n))
	q := mul(density, mul(round, mul(r, r)))
	d := div(mul(4, r), mul(3, round))
	first := div(mul(p, add(mul(n, n), product(4, r, r))), 12)
	second := mul(q, sum(product(r, r, 0.5), product(n, n, 0.25), mul(n, d)))
	return api.Mass{Mass: add(p, q), Inertia: add(first, second), Centre: v(div(add(a.X, b.X), 2), div(add(a.Y, b.Y), 2))}
}

func wantPolygon(s api.Shape, density float64) (api.Mass, api.Errno) {
	area, e := poly.Area(s.Points)
	if e != api.OK {
		return api.Mass{}, e
	}
	centre, e := poly.Centre(s.Points)
	if e != api.OK {
		return api.Mass{}, e
	}
	var terms []float64
	for i, p := range s.Points {
		q := s.Points[0]
		if i < len(s.Points)-1 {
			q = s.Points[i+1]
		}
		a, b := less(p, centre), less(q, centre)
		terms = append(terms, mul(cross(a, b), sum(dot(a, a), dot(a, b), dot(b, b))))
	}
	return api.Mass{Mass: mul(density, area), Inertia: mul(density, div(sum(terms...), 12)), Centre: centre}, api.OK
}

func wantOf(s api.Shape, density float64) (m api.Mass, e api.Errno) {
	if e := shape.Check(s); e != api.OK {
		return m, e
	}
	if math.IsNaN(density) || density < 0 || density > api.MaxReal {
		return m, api.ErrReal
	}
	switch s.Kind {
	case api.Circle:
		m = wantCircle(s, density)
	case api.Capsule:
		m = wantCapsule(s, density)
	default:
		m, e = wantPolygon(s, density)
	}
	if e != api.OK {
		return api.Mass{}, e
	}
	return wantChecked(m)
}

func isOf(t *testing.T, s api.Shape, density float64) api.Errno {
	t.Helper()
	got, e := mass.Of(s, density)
	want, wantE := wantOf(s, density)
	isErr(t, e, wantE, "Of", s, density)
	isMass(t, got, want, "Of", s, density)
	return e
}

func TestP8_2Of(t *testing.T) {
	weighed := map[uint8]int{}
	overShapes(60000, func(s *source, w api.Shape) {
		if isOf(t, w, s.density()) == api.OK {
			weighed[w.Kind]++
		}
	})
	enough(t, weighed, 5000, api.Circle, api.Capsule, api.Polygon)
}

// farthest makes points so much greater that the greatest part is MaxReal.
func farthest(l []api.Vec) []api.Vec {
	great := 0.0
	for _, p := range l {
		great = max(great, p.X, p.Y)
	}
	far := slices.Clone(l)
	for i, p := range far {
		far[i] = v(p.X/great*api.MaxReal, p.Y/great*api.MaxReal)
	}
	return far
}

// Of a polygon as vec.Cross rounds, that is hardly one, rounding can leave no area, an inertia below nought, a centre far away.
func TestP8_2OfFlat(t *testing.T) {
	count := map[api.Errno]int{}
	s := source(3)
	for range 200000 {
		l := s.flat(3 + s.below(3))
		for _, l := range [][]api.Vec{l, farthest(l)} {
			w := api.Shape{Kind: api.Polygon, Points: l}
			if shape.Check(w) == api.OK {
				count[isOf(t, w, s.density())]++
			}
		}
	}
	enough(t, count, 10, api.ErrFlat, api.ErrMass)
	enough(t, count, 20000, api.OK)
	for i, c := range []struct {
		s api.Shape
		e api.Errno
	}{
		{convex(0x1.278313b5d9e89p+01, 0x1.09b0d5290bb53p+00, 0x1.1ca300c4f11e4p+00, 0x1.ffd36bb9a29a4p-02, 0x1.dec486c1021e8p-03, 0x1.ae74103e7e764p-04, 0x1.6376b12150c52p-01, 0x1.3f97a8fb051e2p-02), api.ErrFlat},
		{convex(0x1.0ea4d6285e35bp-01, 0x1.3f649492814fap+00, 0x1.51319d66d0d5cp-07, 0x1.8dee0ff11b1a6p-06, 0x1.1177dbbdbe2fp-08, 0x1.42b9d5a30e058p-07), api.ErrMass},
		{convex(0x1p+40, 0x1.679197e989d5dp+38, 0x1.6873a38fb6d5ep+39, 0x1.fa4729c336993p+37, 0x1.2edf34fb9952fp+38, 0x1.a9674373caff5p+36, 0x1.9975108171b87p+37, 0x1.1f8e0436ba44ap+36), api.ErrMass},
	} {
		isErr(t, shape.Check(c.s), api.OK, "Check", i)
		got, e := mass.Of(c.s, 1)
		isErr(t, e, c.e, "Of", i)
		isMass(t, got, api.Mass{}, "Of beside an error", i)
		// A density that may not be is told ahead of that.
		_, e = mass.Of(c.s, -1)
		isErr(t, e, api.ErrReal, "Of", i)
	}
}

// Of nothing, an inertia below nought is nought.
func TestP8_2OfFlatAndLight(t *testing.T) {
	s := convex(0x1.0ea4d6285e35bp-01, 0x1.3f649492814fap+00, 0x1.51319d66d0d5cp-07, 0x1.8dee0ff11b1a6p-06, 0x1.1177dbbdbe2fp-08, 0x1.42b9d5a30e058p-07)
	isErr(t, isOf(t, s, 0), api.OK, "Of", s)
	isErr(t, isOf(t, s, minus), api.OK, "Of", s)
}

func TestP8_2OfKnown(t *testing.T) {
	for i, c := range []struct {
		s       api.Shape
		density float64
		want    api.Mass
	}{
		{square(), 1, weight(4, 8.0/3, 1, 1)}, {square(), 3, weight(12, 8, 1, 1)}, {convex(2, 2, 0, 2, 0, 0, 2, 0), 3, weight(12, 8, 1, 1)},
		{convex(-1, -1, 1, -1, 1, 1, -1, 1), 6, weight(24, 16, 0, 0)}, {convex(99, -1, 101, -1, 101, 1, 99, 1), 6, weight(24, 16, 100, 0)},
		{convex(-1, 0, 0, -1, 1, 0, 0, 1), 3, weight(6, 2, 0, 0)}, {convex(0, 0, 6, 0, 0, 12), 1, weight(36, 360, 2, 4)},
		{square(), 0, weight(0, 0, 1, 1)}, {square(), minus, weight(minus, minus, 1, 1)}, {disc(1, 3, minus), minus, weight(minus, minus, 3, minus)}, {pill(1, 0, 0, 2, 4), minus, weight(minus, minus, 1, 2)},
		{disc(1, 0, 0), 1, weight(math.Pi, math.Pi/2, 0, 0)}, {disc(1, 0, 0), api.MaxReal, weight(math.Pi*0x1p40, math.Pi*0x1p39, 0, 0)}, {disc(1, 5, 7), tiny, weight(3*tiny, 2*tiny, 5, 7)},
		{disc(api.MaxReal, api.MaxReal, -api.MaxReal), api.MaxReal, weight(math.Pi*0x1p120, math.Pi*0x1p199, api.MaxReal, -api.MaxReal)},
		{disc(api.MinReal, 0, 0), 1, weight(math.Pi*0x1p-60, math.Pi*0x1p-121, 0, 0)},
		{convex(-api.MaxReal, -api.MaxReal, api.MaxReal, -api.MaxReal, api.MaxReal, api.MaxReal, -api.MaxReal, api.MaxReal), 3, weight(3*0x1p82, 0x1p163, 0, 0)},
	} {
		got, e := mass.Of(c.s, c.density)
		isErr(t, e, api.OK, "Of", i)
		isMass(t, got, c.want, "Of", i)
		isErr(t, isOf(t, c.s, c.density), api.OK, "Of", i)
	}
	// The ends, where only the formula tells.
	for _, s := range []api.Shape{pill(api.MaxReal, -api.MaxReal, -api.MaxReal, api.MaxReal, api.MaxReal), pill(api.MinReal, 0, 0, 0, api.MinReal), pill(api.MaxReal, 0, 0, api.MinReal, 0), pill(api.MinReal, -api.MaxReal, 0, api.MaxReal, 0)} {
		for _, density := range []float64{0, minus, tiny, 1, api.MaxReal} {
			isErr(t, isOf(t, s, density), api.OK, "Of", s, density)
		}
	}
}

// A long capsule is nearly a box, a short one nearly a circle.
func TestP8_2OfCapsules(t *testing.T) {
	near := func(got, want float64) {
		t.Helper()
		if math.Abs(got-want) > want*0x1p-20 {
			t.Errorf("%v is not near %v", got, want)
		}
	}
	long, _ := mass.Of(pill(1, 0, 0, 0x1p30, 0), 1)
	near(long.Mass, 0x1p31)
	near(long.Inertia, 0x1p91/12)
	small, _ := mass.Of(pill(1, 0, 0, api.MinReal, 0), 1)
	near(small.Mass, math.Pi)
	near(small.Inertia, math.Pi/2)
}

func TestP8_2OfRefuses(t *testing.T) {
	count := map[api.Errno]int{}
	s := source(2)
	for range 40000 {
		w := s.spoiled()
		count[isOf(t, w, s.density())]++
		isOf(t, w, s.edge())
	}
	enough(t, count, 1000, api.OK, api.ErrKind, api.ErrShape, api.ErrReal, api.ErrPoly)
	for _, wrong := range []float64{none, inf, -inf, past, -1, -tiny, -api.MaxReal, most} {
		for _, w := range []api.Shape{disc(1, 0, 0), pill(1, 0, 0, 1, 0), square()} {
			got, e := mass.Of(w, wrong)
			isErr(t, e, api.ErrReal, "Of", w, wrong)
			isMass(t, got, api.Mass{}, "Of beside an error", w, wrong)
		}
		// The shape is looked at first.
		for w, want := range map[*api.Shape]api.Errno{{}: api.ErrKind, {Kind: api.Circle, Radius: 1, Points: points(0, 0, 1, 1)}: api.ErrShape, {Kind: api.Polygon, Points: points(0, 0, 0, 1, 1, 0)}: api.ErrPoly} {
			got, e := mass.Of(*w, wrong)
			isErr(t, e, want, "Of", *w, wrong)
			isMass(t, got, api.Mass{}, "Of beside an error", *w, wrong)
		}
	}
}

// wantJoin goes by P8.3's words.
func wantJoin(l []api.Mass) (api.Mass, api.Errno) {
	if len(l) > api.MaxNodes {
		return api.Mass{}, api.ErrMany
	}
	for _, m := range l {
		if wantCheck(m) != api.OK {
			return api.Mass{}, api.ErrMass
		}
	}
	switch len(l) {
	case 0:
		return api.Mass{}, api.OK
	case 1:
		return l[0], api.OK
	}
	var masses, xs, ys, inertias []float64
	for _, m := range l {
		masses = append(masses, m.Mass)
		xs = append(xs, mul(m.Mass, m.Centre.X))
		ys = append(ys, mul(m.Mass, m.Centre.Y))
	}
	all := sum(masses...)
	if all == 0 {
		return api.Mass{}, api.OK
	}
	centre := v(div(sum(xs...), all), div(sum(ys...), all))
	for _, m := range l {
		inertias = append(inertias, add(m.Inertia, mul(m.Mass, square2(less(m.Centre, centre)))))
	}
	return wantChecked(api.Mass{Mass: all, Inertia: sum(inertias...), Centre: centre})
}

func isJoin(t *testing.T, l []api.Mass) api.Errno {
	t.Helper()
	got, e := mass.Join(l)
	want, wantE := wantJoin(l)
	isErr(t, e, wantE, "Join", l)
	isMass(t, got, want, "Join", l)
	return e
}

func TestP8_3Join(t *testing.T) {
	count := map[api.Errno]int{}
	s := source(4)
	for range 30000 {
		count[isJoin(t, s.weights(s.below(12)))]++
		l := s.weights(2 + s.below(3))
		for i := range l {
			l[i].Centre = v(s.far(), s.far())
		}
		count[isJoin(t, l)]++
	}
	enough(t, count, 20000, api.OK)
	enough(t, count, 100, api.ErrMass)
	for _, n := range []int{63, 64, 65, 1000, api.MaxNodes} {
		isJoin(t, s.weights(n))
	}
}

func TestP8_3JoinEdges(t *testing.T) {
	for i, c := range []struct {
		l    []api.Mass
		want api.Mass
		e    api.Errno
	}{
		{nil, api.Mass{}, api.OK}, {[]api.Mass{}, api.Mass{}, api.OK},
		// One is as it was.
		{[]api.Mass{weight(3, 4, 5, 6)}, weight(3, 4, 5, 6), api.OK}, {[]api.Mass{weight(minus, minus, minus, minus)}, weight(minus, minus, minus, minus), api.OK}, {[]api.Mass{weight(0, 7, 1, 2)}, weight(0, 7, 1, 2), api.OK}, {[]api.Mass{weight(most, most, api.MaxReal, 0.1)}, weight(most, most, api.MaxReal, 0.1), api.OK},
		// Several that weigh nothing are nothing.
		{[]api.Mass{weight(0, 7, 1, 2), weight(0, 8, 3, 4)}, api.Mass{}, api.OK}, {[]api.Mass{weight(minus, 7, 1, 2), weight(minus, 8, 3, 4)}, api.Mass{}, api.OK}, {[]api.Mass{weight(0, most, 1, 2), weight(0, most, 3, 4)}, api.Mass{}, api.OK},
		// One that weighs nothing has no place, but what it is hard to turn counts.
		{[]api.Mass{weight(2, 1, 3, 4), weight(0, 5, 100, 100)}, weight(2, 6, 3, 4), api.OK}, {[]api.Mass{weight(0, 5, -100, 9), weight(2, 1, 3, 4)}, weight(2, 6, 3, 4), api.OK},
		{[]api.Mass{weight(1, 0, -1, 0), weight(1, 0, 1, 0)}, weight(2, 2, 0, 0), api.OK}, {[]api.Mass{weight(1, 3, 0, 5), weight(3, 2, 0, 1)}, weight(4, 17, 0, 2), api.OK}, {[]api.Mass{weight(2, 1, 0, 0), weight(6, 2, 3, 4), weight(8, 0, 1, 1)}, weight(16, 62.75, 1.625, 2), api.OK},
		{[]api.Mass{weight(1, minus, minus, minus), weight(1, minus, minus, minus)}, weight(2, 0, minus, minus), api.OK},
		// From the left: the ones are lost one by one.
		{[]api.Mass{weight(0x1p53, 0x1p53, 0, 0), weight(1, 1, 0, 0), weight(1, 1, 0, 0)}, weight(0x1p53, 0x1p53, 0, 0), api.OK}, {[]api.Mass{weight(1, 1, 0, 0), weight(1, 1, 0, 0), weight(0x1p53, 0x1p53, 0, 0)}, weight(0x1p53+2, 0x1p53+2, 0, 0), api.OK},
		// What may not be, as it comes out.
		{[]api.Mass{weight(most, 0, 0, 0), weight(most, 0, 0, 0)}, api.Mass{}, api.ErrMass}, {[]api.Mass{weight(1, most, 0, 0), weight(1, most, 0, 0)}, api.Mass{}, api.ErrMass}, {[]api.Mass{weight(most/4, 0, 4, 0), weight(most/4, 0, 8, 0)}, api.Mass{}, api.ErrMass}, {[]api.Mass{weight(most/4, 0, 0, -4), weight(most/4, 0, 0, 8)}, api.Mass{}, api.ErrMass}, {[]api.Mass{weight(0x1p1000, 0, 0x1p20, 0), weight(0x1p1000, 0, -0x1p20, 0)}, api.Mass{}, api.ErrMass},
		{[]api.Mass{weight(tiny, 0, 4, 0), weight(tiny, 0, 8, 0)}, weight(2*tiny, 8*tiny, 6, 0), api.OK},
	} {
		got, e := mass.Join(c.l)
		isErr(t, e, c.e, "Join", i)
		isMass(t, got, c.want, "Join", i)
		isJoin(t, c.l)
	}
}

func TestP8_3JoinRefuses(t *testing.T) {
	for _, wrong := range wrongs() {
		for _, n := range []int{1, 2, 5} {
			for i := range n {
				l := make([]api.Mass, n)
				l[i] = wrong
				got, e := mass.Join(l)
				isErr(t, e, api.ErrMass, "Join", l)
				isMass(t, got, api.Mass{}, "Join beside an error", l)
			}
		}
	}
	for _, n := range []int{api.MaxNodes + 1, api.MaxNodes + 2, 3 * api.MaxNodes} {
		l := make([]api.Mass, n)
		// How many there are is looked at first.
		for _, first := range []api.Mass{{}, weight(none, 0, 0, 0)} {
			l[0] = first
			got, e := mass.Join(l)
			isErr(t, e, api.ErrMany, "Join", n)
			isMass(t, got, api.Mass{}, "Join beside an error", n)
		}
	}
	l := make([]api.Mass, api.MaxNodes)
	for i := range l {
		l[i] = weight(1, 2, 3, 4)
	}
	got, e := mass.Join(l)
	isErr(t, e, api.OK, "Join of MaxNodes")
	isMass(t, got, weight(api.MaxNodes, 2*api.MaxNodes, 3, 4), "Join of MaxNodes")
	l[api.MaxNodes-1].Mass = -1
	_, e = mass.Join(l)
	isErr(t, e, api.ErrMass, "Join of MaxNodes, the last one wrong")
}

// wantAbout goes by P8.4's words.
func wantAbout(m api.Mass, p api.Vec) float64 {
	return add(m.Inertia, mul(m.Mass, square2(less(p, m.Centre))))
}

func TestP8_4About(t *testing.T) {
	s := source(5)
	for range 40000 {
		m := s.weight()
		for _, p := range []api.Vec{s.place(), m.Centre, v(s.far(), s.far())} {
			got, e := mass.About(m, p)
			isErr(t, e, api.OK, "About", m, p)
			isFloat(t, got, wantAbout(m, p), "About", m, p)
		}
	}
}

func TestP8_4AboutEdges(t *testing.T) {
	for i, c := range []struct {
		m    api.Mass
		p    api.Vec
		want float64
	}{
		{weight(2, 1, 0, 0), v(3, 4), 51}, {weight(2, 1, 0, 0), v(-3, -4), 51}, {weight(2, 1, 5, 6), v(8, 10), 51}, {weight(2, 1, 3, 4), v(3, 4), 1},
		{weight(0, 7, 3, 4), v(9, 9), 7}, {weight(minus, 7, 3, 4), v(9, 9), 7}, {api.Mass{}, v(1, 1), 0}, {weight(0, minus, 0, 0), v(1, 1), 0}, {weight(minus, minus, 0, 0), v(1, 1), minus},
		{weight(1, 0, api.MaxReal, api.MaxReal), v(-api.MaxReal, -api.MaxReal), 0x1p83},
		// What comes out is no mass: nothing is asked of it.
		{weight(most, 0, 0, 0), v(2, 0), inf}, {weight(most, most, 0, 0), v(1, 0), inf}, {weight(most, 1, 5, 5), v(5, 5), 1},
	} {
		got, e := mass.About(c.m, c.p)
		isErr(t, e, api.OK, "About", i)
		isFloat(t, got, c.want, "About", i)
	}
}

func TestP8_4AboutRefuses(t *testing.T) {
	refused := func(m api.Mass, p api.Vec, want api.Errno) {
		t.Helper()
		got, e := mass.About(m, p)
		isErr(t, e, want, "About", m, p)
		isFloat(t, got, 0, "About beside an error", m, p)
	}
	for _, wrong := range []float64{none, inf, -inf, past, -past, most} {
		refused(weight(1, 1, 0, 0), v(wrong, 0), api.ErrReal)
		refused(weight(1, 1, 0, 0), v(0, wrong), api.ErrReal)
		refused(api.Mass{}, v(wrong, wrong), api.ErrReal)
		for _, m := range wrongs() {
			refused(m, v(wrong, 0), api.ErrMass)
		}
	}
	for _, m := range wrongs() {
		refused(m, v(0, 0), api.ErrMass)
	}
}

func part(s api.Shape, density float64) api.Part { return api.Part{Shape: s, Density: density} }

func sensor(s api.Shape, density float64) api.Part {
	return api.Part{Shape: s, Density: density, Sensor: true}
}

// wantParts goes by P8.5's words.
func wantParts(l []api.Part) (api.Mass, api.Errno) {
	if len(l) > api.MaxParts {
		return api.Mass{}, api.ErrMany
	}
	var weighed []api.Mass
	for _, p := range l {
		m, e := wantOf(p.Shape, p.Density)
		if e != api.OK {
			return api.Mass{}, e
		}
		if !p.Sensor {
			weighed = append(weighed, m)
		}
	}
	return wantJoin(weighed)
}

func isParts(t *testing.T, l []api.Part) api.Errno {
	t.Helper()
	got, e := mass.Parts(l)
	want, wantE := wantParts(l)
	isErr(t, e, wantE, "Parts", l)
	isMass(t, got, want, "Parts", l)
	return e
}

// parts are such as may be, but for some; nothing but Shape, Density and Sensor counts.
func (s *source) parts() []api.Part {
	l := make([]api.Part, s.below(api.MaxParts+1))
	for i := range l {
		l[i] = api.Part{Shape: s.shape(), Density: s.density(), Friction: s.edge(), Bounce: s.edge(), Sensor: s.below(3) == 0, Layer: uint16(s.next()), Mask: uint16(s.next())}
		for shape.Check(l[i].Shape) != api.OK {
			l[i].Shape = s.shape()
		}
	}
	if len(l) > 0 && s.below(3) == 0 {
		l[s.below(len(l))].Shape = s.spoiled()
	}
	if len(l) > 0 && s.below(3) == 0 {
		l[s.below(len(l))].Density = s.edge()
	}
	return l
}

func TestP8_5Parts(t *testing.T) {
	count := map[api.Errno]int{}
	s := source(6)
	for range 30000 {
		count[isParts(t, s.parts())]++
	}
	enough(t, count, 10000, api.OK)
	enough(t, count, 500, api.ErrKind, api.ErrShape, api.ErrReal, api.ErrPoly)
}

func TestP8_5PartsEdges(t *testing.T) {
	ball, wrong := disc(1, 2, 3), disc(1)
	flat := convex(0x1.278313b5d9e89p+01, 0x1.09b0d5290bb53p+00, 0x1.1ca300c4f11e4p+00, 0x1.ffd36bb9a29a4p-02, 0x1.dec486c1021e8p-03, 0x1.ae74103e7e764p-04, 0x1.6376b12150c52p-01, 0x1.3f97a8fb051e2p-02)
	bad := convex(0x1.0ea4d6285e35bp-01, 0x1.3f649492814fap+00, 0x1.51319d66d0d5cp-07, 0x1.8dee0ff11b1a6p-06, 0x1.1177dbbdbe2fp-08, 0x1.42b9d5a30e058p-07)
	one, _ := mass.Of(ball, 1)
	for i, c := range []struct {
		l    []api.Part
		want api.Mass
		e    api.Errno
	}{
		{nil, api.Mass{}, api.OK}, {[]api.Part{part(ball, 1)}, one, api.OK}, {[]api.Part{sensor(ball, 1)}, api.Mass{}, api.OK}, {[]api.Part{sensor(square(), 9), part(ball, 1), sensor(square(), 2)}, one, api.OK},
		{[]api.Part{part(ball, minus)}, weight(minus, minus, 2, 3), api.OK}, {[]api.Part{part(ball, 0)}, weight(0, 0, 2, 3), api.OK}, {[]api.Part{part(ball, 0), part(ball, 0)}, api.Mass{}, api.OK},
		{[]api.Part{part(square(), 3), part(convex(4, 0, 6, 0, 6, 2, 4, 2), 1)}, weight(16, 8+8.0/3+48, 2, 1), api.OK},
		// Sensors are looked at too, and all of them one by one.
		{[]api.Part{part(ball, 1), sensor(wrong, 1)}, api.Mass{}, api.ErrShape}, {[]api.Part{part(ball, 1), sensor(ball, -1)}, api.Mass{}, api.ErrReal}, {[]api.Part{sensor(flat, 1)}, api.Mass{}, api.ErrFlat}, {[]api.Part{sensor(bad, 1), part(ball, 1)}, api.Mass{}, api.ErrMass}, {[]api.Part{part(bad, 1)}, api.Mass{}, api.ErrMass},
		{[]api.Part{part(ball, -1), part(wrong, 1)}, api.Mass{}, api.ErrReal}, {[]api.Part{part(wrong, 1), part(ball, -1)}, api.Mass{}, api.ErrShape}, {[]api.Part{part(wrong, -1)}, api.Mass{}, api.ErrShape}, {[]api.Part{{}, part(wrong, 1)}, api.Mass{}, api.ErrKind}, {[]api.Part{sensor(ball, none), {}}, api.Mass{}, api.ErrReal},
		{make([]api.Part, 1), api.Mass{}, api.ErrKind}, {make([]api.Part, 8), api.Mass{}, api.ErrKind}, {make([]api.Part, 9), api.Mass{}, api.ErrMany}, {make([]api.Part, 10), api.Mass{}, api.ErrMany},
	} {
		got, e := mass.Parts(c.l)
		isErr(t, e, c.e, "Parts", i)
		isMass(t, got, c.want, "Parts", i)
	}
	for n := range 12 {
		l := slices.Repeat([]api.Part{part(convex(-1, -1, 1, -1, 1, 1, -1, 1), 3)}, n)
		got, e := mass.Parts(l)
		if n > 8 {
			isErr(t, e, api.ErrMany, "Parts", n)
			isMass(t, got, api.Mass{}, "Parts", n)
			continue
		}
		isErr(t, e, api.OK, "Parts", n)
		isMass(t, got, weight(12*float64(n), 8*float64(n), 0, 0), "Parts", n)
		// Sensors count as parts.
		isErr(t, isParts(t, append(l, slices.Repeat([]api.Part{sensor(ball, 1)}, 9-n)...)), api.ErrMany, "Parts", n)
	}
}

// Rounding can't put the centre of several beyond MaxReal, where each one's is not.
func TestP8_5PartsFarAway(t *testing.T) {
	s := source(8)
	for range 5000 {
		l := make([]api.Part, 2+s.below(7))
		for i := range l {
			l[i] = part(disc(1+s.part(), api.MaxReal-float64(s.below(3))*0x1p-13, s.far()), s.part())
		}
		isErr(t, isParts(t, l), api.OK, "Parts", l)
	}
}

func TestP8_6Still(t *testing.T) {
	least := math.Nextafter(0x1p-1024, 1)
	floats := []float64{0, minus, tiny, 0x1p-1030, 0x1p-1024, least, 0x1p-1023, 0x1p-1022, 0x1p-1000, api.MinReal, 0.1, 0.5, 1, 3, 1e10, api.MaxReal, 0x1p1000, most}
	s := source(9)
	for range 1000 {
		floats = append(floats, math.Abs(s.plain()))
	}
	want := func(f float64) float64 {
		if f == 0 || math.IsInf(div(1, f), 0) {
			return 0
		}
		return div(1, f)
	}
	for _, m := range floats {
		for _, i := range floats {
			gotM, gotI, e := mass.Still(weight(m, i, 1, 2))
			isErr(t, e, api.OK, "Still", m, i)
			isFloat(t, gotM, want(m), "Still", m, i)
			isFloat(t, gotI, want(i), "Still", m, i)
		}
	}
	for i, c := range []struct{ of, want float64 }{{2, 0.5}, {0, 0}, {minus, 0}, {tiny, 0}, {0x1p-1024, 0}, {0x1p-1023, 0x1p1023}, {0x1p1023, 0x1p-1023}, {3, 1.0 / 3}} {
		gotM, _, _ := mass.Still(weight(c.of, 0, 0, 0))
		isFloat(t, gotM, c.want, "Still's mass", i)
		_, gotI, _ := mass.Still(weight(0, c.of, 0, 0))
		isFloat(t, gotI, c.want, "Still's inertia", i)
	}
	if m, _, _ := mass.Still(weight(least, 0, 0, 0)); math.IsInf(m, 0) || m == 0 {
		t.Errorf("one over %v is %v", least, m)
	}
	for _, m := range wrongs() {
		a, b, e := mass.Still(m)
		isErr(t, e, api.ErrMass, "Still", m)
		isFloat(t, a, 0, "Still beside an error", m)
		isFloat(t, b, 0, "Still beside an error", m)
	}
}

// roomy is a list with spare room on both sides, and the whole that it lies in.
func roomy[T any](l []T, filler T) (given, whole []T) {
	whole = slices.Concat([]T{filler}, l, []T{filler, filler, filler})
	return whole[1 : 1+len(l)], whole
}

// copyOf keeps parts as they are, their points too.
func copyOf(l []api.Part) []api.Part {
	kept := slices.Clone(l)
	for i := range kept {
		kept[i].Shape.Points = slices.Clone(kept[i].Shape.Points)
	}
	return kept
}

func TestP8_7Read(t *testing.T) {
	s := source(10)
	for range 20000 {
		given, whole := roomy(s.parts(), part(disc(7, 8, 9), 5))
		var rooms, roomsKept [][]api.Vec
		for i := range given {
			l, all := roomy(given[i].Shape.Points, v(91, 92))
			given[i].Shape.Points = l
			rooms, roomsKept = append(rooms, all), append(roomsKept, slices.Clone(all))
		}
		kept := copyOf(whole)
		mass.Parts(given)
		for _, p := range given {
			mass.Of(p.Shape, p.Density)
		}
		if !slices.EqualFunc(whole, kept, samePart) {
			t.Fatalf("what was handed in, %v, was changed to %v", kept, whole)
		}
		for i := range rooms {
			if !slices.EqualFunc(rooms[i], roomsKept[i], sameVec) {
				t.Fatalf("the points that were handed in, %v, were changed to %v", roomsKept[i], rooms[i])
			}
		}
		l, all := roomy(s.weights(s.below(9)), weight(1, 2, 3, 4))
		keptAll := slices.Clone(all)
		mass.Join(l)
		if !slices.EqualFunc(all, keptAll, sameMass) {
			t.Fatalf("what was handed in, %v, was changed to %v", keptAll, all)
		}
	}
}

// nearly tells whether two floats differ by at most so much.
func nearly(a, b, by float64) bool { return math.Abs(a-b) <= by }

// cut are the two pieces of a polygon on both sides of the line from its first point to another one.
func cut(l []api.Vec, at int) [2][]api.Vec {
	return [2][]api.Vec{slices.Clone(l[:at+1]), append([]api.Vec{l[0]}, l[at:]...)}
}

// checkCut holds a polygon to P8.8; false: it is not spoken of there.
func checkCut(t *testing.T, l []api.Vec, at int) bool {
	t.Helper()
	var pieces []api.Mass
	for _, piece := range cut(l, at) {
		area, e := poly.Area(piece)
		if e != api.OK || area < 0x1p-5 {
			return false
		}
		m, e := mass.Of(api.Shape{Kind: api.Polygon, Points: piece}, 1)
		isErr(t, e, api.OK, "Of", piece)
		pieces = append(pieces, m)
	}
	whole, e := mass.Of(api.Shape{Kind: api.Polygon, Points: l}, 1)
	isErr(t, e, api.OK, "Of", l)
	joined, e := mass.Join(pieces)
	isErr(t, e, api.OK, "Join", pieces)
	parts := 0.0
	for _, p := range l {
		parts += math.Abs(p.X) + math.Abs(p.Y)
	}
	if !nearly(whole.Mass, joined.Mass, whole.Mass*0x1p-20) || !nearly(whole.Inertia, joined.Inertia, whole.Inertia*0x1p-20) ||
		!nearly(whole.Centre.X, joined.Centre.X, parts*0x1p-20) || !nearly(whole.Centre.Y, joined.Centre.Y, parts*0x1p-20) {
		t.Fatalf("%v weighs %v, but cut at %d %v", l, whole, at, joined)
	}
	return true
}

func TestP8_8Cut(t *testing.T) {
	count := map[int]int{}
	s := source(12)
	for range 20000 {
		n := 4 + s.below(5)
		l := make([]api.Vec, n)
		middle, far, angle := v(16*s.part(), -16*s.part()), math.Ldexp(1+s.part(), s.below(5)-2), s.part()
		for i := range l {
			angle += 0.05 + s.part()*1.2*math.Pi/float64(n)
			l[i] = v(middle.X+far*math.Cos(angle), middle.Y+far*math.Sin(angle))
		}
		if shape.Check(api.Shape{Kind: api.Polygon, Points: l}) != api.OK {
			continue
		}
		for at := 2; at < n-1; at++ {
			if checkCut(t, l, at) {
				count[n]++
			}
		}
	}
	enough(t, count, 500, 4, 5, 6, 7, 8)
	for _, l := range [][]api.Vec{
		points(-32, -32, 32, -32, 32, 32, -32, 32), points(31.5, 31.5, 32, 31.5, 32, 32, 31.5, 32), points(-32, 0, 32, -0x1p-9, 32, 0x1p-9, 0, 0x1.8p-9), points(0, 0, 2, -1, 4, 0, 5, 2, 4, 4, 2, 5, 0, 4, -1, 2),
	} {
		for at := 2; at < len(l)-1; at++ {
			if !checkCut(t, l, at) {
				t.Errorf("%v can't be cut at %d", l, at)
			}
		}
	}
}

func TestP8_9About(t *testing.T) {
	s := source(13)
	for range 40000 {
		m := s.weight()
		here, _ := mass.About(m, m.Centre)
		if here != m.Inertia {
			t.Fatalf("About the Centre of %v is %v", m, here)
		}
		for _, p := range []api.Vec{s.place(), v(s.far(), s.far()), v(math.Nextafter(m.Centre.X, 0), m.Centre.Y)} {
			there, e := mass.About(m, p)
			isErr(t, e, api.OK, "About", m, p)
			if there < here {
				t.Fatalf("About(%v, %v) is %v", m, p, there)
			}
		}
	}
}

func TestP8_9OppositeOrder(t *testing.T) {
	s := source(14)
	checked := 0
	for range 10000 {
		l := s.weights(1 + s.below(64))
		back := slices.Clone(l)
		slices.Reverse(back)
		a, e := mass.Join(l)
		b, e2 := mass.Join(back)
		if e != api.OK || e2 != api.OK {
			continue
		}
		checked++
		far := 0.0
		for _, m := range l {
			far = max(far, math.Abs(m.Centre.X), math.Abs(m.Centre.Y))
		}
		if !nearly(a.Mass, b.Mass, a.Mass*0x1p-40) || !nearly(a.Centre.X, b.Centre.X, far*0x1p-40) || !nearly(a.Centre.Y, b.Centre.Y, far*0x1p-40) {
			t.Fatalf("Join(%v) is %v, in the opposite order %v", l, a, b)
		}
	}
	if checked < 5000 {
		t.Errorf("too few: %v", checked)
	}
}

func TestP8_9PowersOfTwo(t *testing.T) {
	count := map[uint8]int{}
	overShapes(30000, func(s *source, w api.Shape) {
		density := 0.001 + s.part()
		m, e := mass.Of(w, density)
		if e != api.OK {
			return
		}
		k, d := s.below(17)-8, s.below(21)-10
		by, heavy := math.Ldexp(1, k), math.Ldexp(1, d)
		big := scaled(w, by)
		if shape.Check(big) != api.OK {
			return
		}
		count[w.Kind]++
		got, e := mass.Of(big, density*heavy)
		isErr(t, e, api.OK, "Of", big)
		want := weight(m.Mass*heavy*by*by, m.Inertia*heavy*by*by*by*by, m.Centre.X*by, m.Centre.Y*by)
		isMass(t, got, want, "Of", w, density, by, heavy)
	})
	enough(t, count, 3000, api.Circle, api.Capsule, api.Polygon)
}

func TestExamples(t *testing.T) {
	ball, box := disc(2, 1, 2), convex(2, -2, 4, -2, 4, 2, 2, 2)
	for i, c := range []struct {
		s       api.Shape
		density float64
		want    api.Mass
		e       api.Errno
	}{
		{ball, 0.5, weight(6.283185307179586, 12.566370614359172, 1, 2), api.OK}, {box, 1, weight(8, 13.333333333333334, 3, 0), api.OK}, {pill(1, -1, 0, 1, 0), 1, weight(7.141592653589793, 10.045722313718024, 0, 0), api.OK}, {convex(0, 0, 3, 0, 0, 3), 2, weight(9, 9, 1, 1), api.OK},
		{ball, -1, api.Mass{}, api.ErrReal}, {ball, none, api.Mass{}, api.ErrReal}, {ball, 0, weight(0, 0, 1, 2), api.OK}, {disc(1, 0, 0, 1, 1), -1, api.Mass{}, api.ErrShape},
	} {
		got, e := mass.Of(c.s, c.density)
		isErr(t, e, c.e, "Of", i)
		isMass(t, got, c.want, "Of", i)
	}
	for i, c := range []struct {
		l    []api.Mass
		want api.Mass
	}{{[]api.Mass{weight(2, 1, 0, 0), weight(6, 2, 4, 0)}, weight(8, 27, 3, 0)}, {nil, api.Mass{}}, {[]api.Mass{weight(0, 0, 5, 6), weight(0, 0, 7, 8)}, api.Mass{}}} {
		got, e := mass.Join(c.l)
		isErr(t, e, api.OK, "Join", i)
		isMass(t, got, c.want, "Join", i)
	}
	for i, c := range []struct {
		p    api.Vec
		want float64
	}{{v(3, 4), 51}, {v(0, 0), 1}} {
		got, e := mass.About(weight(2, 1, 0, 0), c.p)
		isErr(t, e, api.OK, "About", i)
		isFloat(t, got, c.want, "About", i)
	}
	for i, c := range []struct {
		m, i, over, overI float64
		e                 api.Errno
	}{{2, 0.5, 0.5, 2, api.OK}, {0, 0, 0, 0, api.OK}, {-1, 0, 0, 0, api.ErrMass}} {
		a, b, e := mass.Still(weight(c.m, c.i, 0, 0))
		isErr(t, e, c.e, "Still", i)
		isFloat(t, a, c.over, "Still", i)
		isFloat(t, b, c.overI, "Still", i)
	}
	one, _ := mass.Of(disc(1, 0, 0), 1)
	for i, c := range []struct {
		l    []api.Part
		want api.Mass
		e    api.Errno
	}{{make([]api.Part, 9), api.Mass{}, api.ErrMany}, {[]api.Part{part(disc(1, 0, 0), 1), sensor(box, 4)}, one, api.OK}, {[]api.Part{part(ball, -1), {}}, api.Mass{}, api.ErrReal}, {[]api.Part{{}, part(ball, -1)}, api.Mass{}, api.ErrKind}} {
		got, e := mass.Parts(c.l)
		isErr(t, e, c.e, "Parts", i)
		isMass(t, got, c.want, "Parts", i)
	}
}
