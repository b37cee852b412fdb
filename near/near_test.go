package near_test

import (
	"math"
	"slices"
	"testing"

	"tumble/api"
	"tumble/near"
	"tumble/poly"
	"tumble/shape"
)

var (
	minus = math.Copysign(0, -1)
	none  = math.NaN()
	inf   = math.Inf(1)
	past  = math.Nextafter(api.MaxReal, inf)
	short = math.Nextafter(api.MinReal, 0)
)

func v(x, y float64) api.Vec { return api.Vec{X: x, Y: y} }

// points are told by their parts, one after the other.
func points(l ...float64) []api.Vec {
	var p []api.Vec
	for i := 0; i < len(l); i += 2 {
		p = append(p, v(l[i], l[i+1]))
	}
	return p
}

// disc, pill and convex are the three kinds, their points told by parts.
func disc(radius float64, l ...float64) api.Shape {
	return api.Shape{Kind: api.Circle, Radius: radius, Points: points(l...)}
}

func pill(radius float64, l ...float64) api.Shape {
	return api.Shape{Kind: api.Capsule, Radius: radius, Points: points(l...)}
}

func convex(l ...float64) api.Shape { return api.Shape{Kind: api.Polygon, Points: points(l...)} }

func scaledVec(p api.Vec, by float64) api.Vec { return v(p.X*by, p.Y*by) }

func scaled(s api.Shape, by float64) api.Shape {
	l := slices.Clone(s.Points)
	for i := range l {
		l[i] = scaledVec(l[i], by)
	}
	return api.Shape{Kind: s.Kind, Radius: s.Radius * by, Points: l}
}

func moved(s api.Shape, x, y float64) api.Shape {
	l := slices.Clone(s.Points)
	for i := range l {
		l[i] = v(l[i].X+x, l[i].Y+y)
	}
	return api.Shape{Kind: s.Kind, Radius: s.Radius, Points: l}
}

// regular has its points on a circle.
func regular(n int, far float64) []api.Vec {
	l := make([]api.Vec, n)
	for i := range l {
		a := 2 * math.Pi * float64(i) / float64(n)
		l[i] = v(far*math.Cos(a), far*math.Sin(a))
	}
	return l
}

// The oracle rounds each operation by itself: a call that is not inlined can't be worked out as one with the next.
//
//go:noinline
func add(a, b float64) float64 { return a + b }

//go:noinline
func sub(a, b float64) float64 { return a - b }

//go:noinline
func mul(a, b float64) float64 { return a * b }

//go:noinline
func div(a, b float64) float64 { return a / b }

func less(a, b api.Vec) api.Vec { return v(sub(a.X, b.X), sub(a.Y, b.Y)) }

func more(a api.Vec, by float64, b api.Vec) api.Vec {
	return v(add(a.X, mul(by, b.X)), add(a.Y, mul(by, b.Y)))
}

func dot(a, b api.Vec) float64 { return add(mul(a.X, b.X), mul(a.Y, b.Y)) }

func cross(a, b api.Vec) float64 { return sub(mul(a.X, b.Y), mul(a.Y, b.X)) }

func length(a api.Vec) float64 { return math.Sqrt(dot(a, a)) }

// same is told by bits, apart from what the package does.
func same(a, b float64) bool {
	if math.IsNaN(a) || math.IsNaN(b) {
		return math.IsNaN(a) && math.IsNaN(b)
	}
	return math.Float64bits(a) == math.Float64bits(b)
}

func sameVec(a, b api.Vec) bool { return same(a.X, b.X) && same(a.Y, b.Y) }

func isErr(t *testing.T, got, want api.Errno, call string, args ...any) {
	t.Helper()
	if got != want {
		t.Fatalf("%s%v tells %d, not %d", call, args, got, want)
	}
}

func isVec(t *testing.T, got, want api.Vec, call string, args ...any) {
	t.Helper()
	if !sameVec(got, want) {
		t.Fatalf("%s%v is %v, not %v", call, args, got, want)
	}
}

func isFloat(t *testing.T, got, want float64, call string, args ...any) {
	t.Helper()
	if !same(got, want) {
		t.Fatalf("%s%v is %v, not %v", call, args, got, want)
	}
}

func isBool(t *testing.T, got, want bool, call string, args ...any) {
	t.Helper()
	if got != want {
		t.Fatalf("%s%v is %v", call, args, got)
	}
}

func isNear(t *testing.T, got, want api.Near, call string, args ...any) {
	t.Helper()
	if !same(got.Far, want.Far) || !sameVec(got.A, want.A) || !sameVec(got.B, want.B) {
		t.Fatalf("%s%v is %v, not %v", call, args, got, want)
	}
}

// enough tells of each kind whether it came up so often.
func enough[K comparable](t *testing.T, count map[K]int, least int, kinds ...K) {
	t.Helper()
	for _, k := range kinds {
		if count[k] < least {
			t.Errorf("too few of %v: %v", k, count)
		}
	}
}

// source makes floats from a rule of whole numbers: the same ones in each run.
type source uint64

func (s *source) next() uint64 {
	*s = *s*6364136223846793005 + 1442695040888963407
	return uint64(*s >> 31)
}

func (s *source) below(n int) int { return int(s.next() % uint64(n)) }

// plain has all its bits in use, and is from some 2^-20 to 2^20.
func (s *source) plain() float64 {
	whole := int64(s.next()<<20^s.next())&(1<<53-1) - 1<<52
	return math.Ldexp(float64(whole), s.below(40)-72)
}

// part is from 0 to 1.
func (s *source) part() float64 { return float64(s.next()&(1<<30-1)) / (1 << 30) }

// few are from few floats, so that places are often equal, in line or as far apart as others, noughts among them.
func (s *source) few() float64 { return []float64{-2, -1, minus, 0, 1, 2}[s.below(6)] }

// edge is a float at which something may change, wild ones among them.
func (s *source) edge() float64 {
	return []float64{none, -inf, -math.MaxFloat64, -0x1p700, -past, -api.MaxReal, -1, minus, 0, 0x1p-1074, 0x1p-600, short, 1, api.MaxReal, past, 0x1p600, math.MaxFloat64, inf}[s.below(18)]
}

func (s *source) place() api.Vec {
	if s.below(2) == 0 {
		return v(s.few(), s.few())
	}
	return v(s.plain(), s.plain())
}

// any is a place that may be anything.
func (s *source) any() api.Vec {
	if s.below(2) == 0 {
		return v(s.edge(), s.edge())
	}
	return s.place()
}

// radius is from MinReal to 2^20.
func (s *source) radius() float64 {
	if s.below(2) == 0 {
		return []float64{0.25, 0.5, 1, 2}[s.below(4)]
	}
	return math.Ldexp(1+s.part(), s.below(49)-30)
}

// ring are points of a circle, rising by their angles: most often a polygon.
func (s *source) ring(n int) []api.Vec {
	middle, far := s.place(), math.Ldexp(1+s.part(), s.below(25)-10)
	angles := make([]float64, n)
	for i := range angles {
		angles[i] = s.part() * 2 * math.Pi
	}
	slices.Sort(angles)
	l := make([]api.Vec, n)
	for i, a := range angles {
		l[i] = v(middle.X+far*math.Cos(a), middle.Y+far*math.Sin(a))
	}
	return l
}

// flat are points so near to one line that rounding decides what they are.
func (s *source) flat(n int) []api.Vec {
	way := v(s.part(), s.part())
	l := make([]api.Vec, n)
	for i := range l {
		far := 4 * s.part()
		l[i] = v(way.X*far, way.Y*far)
		if s.below(2) == 0 {
			l[i].X = math.Nextafter(l[i].X, inf)
		}
	}
	return l
}

// coarse are the outermost of points of few floats.
func (s *source) coarse(n int) []api.Vec {
	l := make([]api.Vec, n)
	for i := range l {
		l[i] = v(s.few(), s.few())
	}
	h, _ := poly.Hull(l)
	return h
}

func (s *source) corners() []api.Vec {
	for {
		var l []api.Vec
		switch s.below(6) {
		case 0:
			l = s.flat(3 + s.below(2))
		case 1, 2, 3:
			l = s.coarse(3 + s.below(6))
		default:
			l = s.ring(3 + s.below(6))
		}
		if poly.Check(l) == api.OK {
			// Begun at any of them, so that what is first is not always to the left.
			k := s.below(len(l))
			return append(slices.Clone(l[k:]), l[:k]...)
		}
	}
}

// shape is one that may be.
func (s *source) shape() api.Shape {
	for {
		w := api.Shape{Kind: api.Polygon, Radius: []float64{0, minus}[s.below(2)]}
		switch s.below(4) {
		case 0:
			w = api.Shape{Kind: api.Circle, Radius: s.radius(), Points: []api.Vec{s.place()}}
		case 1:
			w = api.Shape{Kind: api.Capsule, Radius: s.radius(), Points: []api.Vec{s.place(), s.place()}}
		default:
			w.Points = s.corners()
		}
		if shape.Check(w) == api.OK {
			return w
		}
	}
}

// beside is one that may be, and often lies in another one, over it or by it.
func (s *source) beside(a api.Shape) api.Shape {
	for {
		b := s.shape()
		switch s.below(6) {
		case 0:
			b = a
		case 1:
			b = moved(a, s.few(), s.few())
		case 2:
			b = moved(a, s.plain(), s.plain())
		case 3:
			p := a.Points[s.below(len(a.Points))]
			b = moved(scaled(b, math.Ldexp(1, s.below(20)-15)), p.X, p.Y)
		}
		if shape.Check(b) == api.OK {
			return b
		}
	}
}

// overPairs hands over shapes that may be.
func overPairs(n int, f func(s *source, a, b api.Shape)) {
	s := source(3)
	for range n {
		a := s.shape()
		f(&s, a, s.beside(a))
	}
}

// overSegments hands over four places that may be anything; most often they lie in a few places, or in one line.
func overSegments(n int, f func(l [4]api.Vec)) {
	s := source(11)
	for range n {
		var l [4]api.Vec
		kind := s.below(8)
		for i := range l {
			switch kind {
			case 0:
				l[i] = s.any()
			case 1:
				l[i] = v(s.edge(), s.edge())
			case 2, 3, 4:
				l[i] = v(s.few(), s.few())
			default:
				l[i] = s.place()
			}
		}
		if kind == 7 {
			copy(l[:], s.flat(4))
		}
		f(l)
	}
}

// wrongPlaces are not Within MaxReal.
func wrongPlaces() []api.Vec {
	var l []api.Vec
	for _, f := range []float64{none, inf, -inf, past, -past, math.MaxFloat64} {
		l = append(l, v(f, 0), v(1, f), v(f, f))
	}
	return l
}

// wrongPolygons are such as poly.Check refuses, with each of its errors.
func wrongPolygons() [][]api.Vec {
	back := points(0, 2, 2, 2, 2, 0, 0, 0)
	return [][]api.Vec{
		nil, {}, points(1, 1), points(0, 0, 1, 0), back, points(0, 0, 1, 0, 2, 0, 2, 2, 0, 2), points(0, 0, 1, 1, 2, 2),
		points(0, 0, 2, 0, 2, none), points(past, 0), points(0, 0, 2, 0, 2, -inf, 0, 2),
		make([]api.Vec, 64), make([]api.Vec, 65), regular(65, 1), slices.Repeat(points(none, 0), 65),
	}
}

// wrongShapes are such as shape.Check refuses, with each of its errors.
func wrongShapes() []api.Shape {
	return []api.Shape{
		{}, {Kind: 4, Radius: 1, Points: points(0, 0)}, {Kind: 255}, disc(1), disc(1, 0, 0, 1, 1), pill(1, 0, 0), pill(1, 0, 0, 1, 1, 2, 2), convex(0, 0, 1, 0),
		disc(0, 0, 0), disc(-1, 0, 0), disc(short, 0, 0), disc(past, 0, 0), disc(none, 0, 0), disc(inf, 0, 0), disc(1, none, 0), disc(1, 0, past),
		pill(1, 2, 2, 2, 2), pill(1, 0, 0, short, 0), pill(0, 0, 0, 1, 1), pill(1, 0, 0, -inf, 0), convex(0, 2, 2, 2, 2, 0), convex(0, 0, 1, 1, 2, 2), convex(0, 0, 2, 0, none, 2),
		{Kind: api.Polygon, Radius: 1, Points: points(0, 0, 2, 0, 2, 2)}, {Kind: api.Polygon, Radius: none, Points: points(0, 0, 2, 0, 2, 2)}, {Kind: api.Polygon, Points: regular(9, 1)}, {Kind: api.Polygon},
	}
}

// wantPoint goes by P10.1's words.
func wantPoint(a, b, p api.Vec) (api.Vec, float64) {
	d := less(b, a)
	s := dot(d, d)
	if math.IsNaN(s) || s <= 0 {
		return a, 0
	}
	t := div(dot(less(p, a), d), s)
	switch {
	case math.IsNaN(t) || t <= 0:
		t = 0
	case t > 1:
		t = 1
	}
	return more(a, t, d), t
}

func isPoint(t *testing.T, a, b, p api.Vec) float64 {
	t.Helper()
	got, along := near.Point(a, b, p)
	want, wantAlong := wantPoint(a, b, p)
	isVec(t, got, want, "Point", a, b, p)
	isFloat(t, along, wantAlong, "Point", a, b, p)
	return along
}

func TestP10_1Point(t *testing.T) {
	count := map[string]int{}
	overSegments(60000, func(l [4]api.Vec) {
		for _, p := range l[2:] {
			switch along := isPoint(t, l[0], l[1], p); {
			case along == 0:
				count["first"]++
			case along == 1:
				count["second"]++
			case along > 0 && along < 1:
				count["between"]++
			default:
				t.Fatalf("Point(%v, %v, %v) is %v along", l[0], l[1], p, along)
			}
		}
	})
	enough(t, count, 5000, "first", "second", "between")
}

func TestP10_1PointEdges(t *testing.T) {
	for i, c := range []struct {
		a, b, p, want api.Vec
		along         float64
	}{
		// A segment without a length, or whose square is not above 0, is its first end, as it stands there.
		{v(minus, 2), v(minus, 2), v(5, 5), v(minus, 2), 0}, {v(minus, minus), v(0x1p-600, 0), v(5, 5), v(minus, minus), 0}, {v(none, 1), v(2, 2), v(5, 5), v(none, 1), 0},
		{v(inf, 0), v(inf, 1), v(5, 5), v(inf, 0), 0}, {v(0, 1), v(1, none), v(0, 0), v(0, 1), 0},
		// The first end as the sum makes it: minus nought, and nought times the way.
		{v(minus, minus), v(1, 0), v(-3, 9), v(0, 0), 0}, {v(minus, minus), v(-1, 1), v(5, -5), v(minus, 0), 0}, {v(minus, minus), v(-1, -1), v(0, 0), v(minus, minus), 0},
		// The quotient's minus nought comes out as 0.
		{v(minus, minus), v(-1, -1), v(1, -1), v(minus, minus), 0}, {v(0, 0), v(4, 0), v(minus, -7), v(0, 0), 0},
		{v(0, 0), v(3, 0), v(1, 0), v(1, 0), 1.0 / 3}, {v(0, 0), v(4, 4), v(4, 0), v(2, 2), 0.5}, {v(1, 1), v(5, 1), v(5, -8), v(5, 1), 1}, {v(1, 1), v(5, 1), v(math.Nextafter(5, 6), 0), v(5, 1), 1},
		// The second end is the first one and the way: rounded.
		{v(1, 0), v(0x1p-60, 0), v(-1, 0), v(0, 0), 1},
		// What is no number counts as below 0; infinite as above 1.
		{v(0, 0), v(4, 0), v(none, 0), v(0, 0), 0}, {v(0, 0), v(4, 4), v(inf, 0), v(4, 4), 1}, {v(0, 0), v(4, 4), v(-inf, 0), v(0, 0), 0}, {v(0, 0), v(4, 4), v(inf, -inf), v(0, 0), 0},
		{v(0, 0), v(0x1p600, 0), v(0x1p600, 0), v(0, 0), 0}, {v(0, 0), v(inf, 0), v(1, 1), v(none, 0), 0},
	} {
		got, along := near.Point(c.a, c.b, c.p)
		isVec(t, got, c.want, "Point", i)
		isFloat(t, along, c.along, "Point", i)
	}
}

// wantSegments goes by P10.2's words.
func wantSegments(a, b, c, d api.Vec) api.Near {
	e, f := less(b, a), less(d, c)
	s, t := cross(e, less(c, a)), cross(e, less(d, a))
	u, w := cross(f, less(a, c)), cross(f, less(b, c))
	if (s > 0 && t < 0 || t > 0 && s < 0) && (u > 0 && w < 0 || w > 0 && u < 0) {
		at := more(a, div(u, sub(u, w)), e)
		return api.Near{Far: 0, A: at, B: at}
	}
	var four [4]api.Near
	four[0].A, four[1].A = a, b
	four[0].B, _ = wantPoint(c, d, a)
	four[1].B, _ = wantPoint(c, d, b)
	four[2].A, _ = wantPoint(a, b, c)
	four[3].A, _ = wantPoint(a, b, d)
	four[2].B, four[3].B = c, d
	best := 0
	for i := range four {
		four[i].Far = length(less(four[i].B, four[i].A))
		if four[i].Far < four[best].Far {
			best = i
		}
	}
	return four[best]
}

func TestP10_2Segments(t *testing.T) {
	count := map[string]int{}
	overSegments(100000, func(l [4]api.Vec) {
		a, b, c, d := l[0], l[1], l[2], l[3]
		want := wantSegments(a, b, c, d)
		isNear(t, near.Segments(a, b, c, d), want, "Segments", a, b, c, d)
		switch {
		case math.IsNaN(want.Far):
			count["no number"]++
		case want.Far > 0:
			count["apart"]++
		case sameVec(want.A, a) || sameVec(want.A, b) || sameVec(want.B, c) || sameVec(want.B, d):
			count["touching"]++
		default:
			count["crossing"]++
		}
	})
	enough(t, count, 2000, "no number", "apart", "touching", "crossing")
}

func TestP10_2SegmentsEdges(t *testing.T) {
	for i, c := range []struct {
		a, b, c, d api.Vec
		want       api.Near
	}{
		{v(0, 0), v(4, 0), v(1, -1), v(1, 3), api.Near{A: v(1, 0), B: v(1, 0)}}, {v(4, 0), v(0, 0), v(1, 3), v(1, -1), api.Near{A: v(1, 0), B: v(1, 0)}},
		// As far as the cut leads along the first one, not the second one.
		{v(0, 1), v(3, 1), v(1, 0), v(1, 3), api.Near{A: v(0+1.0/3*3, 1), B: v(1, 1)}}, {v(minus, minus), v(4, 0), v(2, -1), v(2, 3), api.Near{A: v(2, 0), B: v(2, 0)}},
		// An end on the other one is no crossing: the end itself is the place, and of four as near the first one.
		{v(0, 0), v(4, 0), v(2, minus), v(2, 3), api.Near{A: v(2, 0), B: v(2, minus)}}, {v(0, 0), v(4, 0), v(2, 3), v(2, 0), api.Near{A: v(2, 0), B: v(2, 0)}},
		{v(2, 3), v(2, minus), v(0, 0), v(4, 0), api.Near{A: v(2, minus), B: v(2, 0)}}, {v(2, minus), v(2, 3), v(0, 0), v(4, 0), api.Near{A: v(2, minus), B: v(2, 0)}},
		{v(0, 0), v(4, 0), v(4, 0), v(8, 0), api.Near{A: v(4, 0), B: v(4, 0)}}, {v(0, 0), v(4, 0), v(1, 0), v(3, 0), api.Near{A: v(1, 0), B: v(1, 0)}}, {v(1, 0), v(3, 0), v(0, 0), v(4, 0), api.Near{A: v(1, 0), B: v(1, 0)}},
		// One line crosses the other segment, but not the other way round.
		{v(0, 0), v(4, 0), v(6, -1), v(6, 2), api.Near{Far: 2, A: v(4, 0), B: v(6, 0)}}, {v(6, -1), v(6, 2), v(0, 0), v(4, 0), api.Near{Far: 2, A: v(6, 0), B: v(4, 0)}},
		{v(0, 0), v(4, 0), v(1, 2), v(1, 9), api.Near{Far: 2, A: v(1, 0), B: v(1, 2)}}, {v(0, 0), v(4, 0), v(1, 9), v(1, 2), api.Near{Far: 2, A: v(1, 0), B: v(1, 2)}},
		// Side by side: from the first end, of both, or from the second one, where that is nearer.
		{v(0, 0), v(4, 0), v(4, 1), v(0, 1), api.Near{Far: 1, A: v(0, 0), B: v(0, 1)}}, {v(0, 0), v(4, 0), v(3, 1), v(9, 1), api.Near{Far: 1, A: v(4, 0), B: v(4, 1)}}, {v(0, 0), v(9, 0), v(3, 1), v(5, 1), api.Near{Far: 1, A: v(3, 0), B: v(3, 1)}},
		{v(0, 0), v(0, 0), v(3, 4), v(3, 4), api.Near{Far: 5, A: v(0, 0), B: v(3, 4)}}, {v(0, 0), v(4, 0), v(3, 4), v(3, 4), api.Near{Far: 4, A: v(3, 0), B: v(3, 4)}}, {v(minus, 0), v(minus, 0), v(0, minus), v(0, minus), api.Near{A: v(minus, 0), B: v(0, minus)}},
		// A crossing by so little that the products of the crosses would be nought.
		{v(-0x1p-300, 0), v(0x1p-300, 0), v(0, -0x1p-300), v(0, 0x1p-300), api.Near{A: v(0, 0), B: v(0, 0)}},
		// What is no number, as the first one's distance, stays: nothing is less.
		{v(none, 0), v(1, 0), v(1, 0), v(2, 0), api.Near{Far: none, A: v(none, 0), B: v(1, 0)}}, {v(1, 0), v(none, 0), v(3, 0), v(2, 0), api.Near{Far: 1, A: v(1, 0), B: v(2, 0)}},
		{v(0, 0), v(1, 0), v(0, inf), v(0, inf), api.Near{Far: inf, A: v(0, 0), B: v(0, inf)}}, {v(0x1p600, 0), v(1, 0), v(0, 0), v(0, 0), api.Near{Far: 1, A: v(1, 0), B: v(0, 0)}},
	} {
		isNear(t, near.Segments(c.a, c.b, c.c, c.d), c.want, "Segments", i)
	}
}

// wantPolygon goes by P10.3's words.
func wantPolygon(l []api.Vec, p api.Vec) (api.Vec, int) {
	var best api.Vec
	side, far := -1, 0.0
	for i, a := range l {
		b := l[0]
		if i+1 < len(l) {
			b = l[i+1]
		}
		at, _ := wantPoint(a, b, p)
		if d := length(less(p, at)); side < 0 || d < far {
			best, side, far = at, i, d
		}
	}
	return best, side
}

func TestP10_3Polygon(t *testing.T) {
	s, count := source(5), map[int]int{}
	for i := range 30000 {
		l := s.corners()
		if i%10 == 0 {
			l = regular(3+s.below(62), 1+s.part())
		}
		p := s.place()
		switch s.below(4) {
		case 0:
			p = l[s.below(len(l))]
		case 1:
			p = v(s.few()*0x1p39, s.few()*0x1p39)
		}
		got, side, e := near.Polygon(l, p)
		want, wantSide := wantPolygon(l, p)
		isErr(t, e, api.OK, "Polygon", l, p)
		isVec(t, got, want, "Polygon", l, p)
		if side != wantSide {
			t.Fatalf("Polygon(%v, %v) is side %d, not %d", l, p, side, wantSide)
		}
		count[min(side, len(l)-1-side, 3)]++
	}
	enough(t, count, 300, 0, 1, 2, 3)
}

func TestP10_3PolygonEdges(t *testing.T) {
	q := points(0, 0, 2, 0, 2, 2, 0, 2)
	for i, c := range []struct {
		l       []api.Vec
		p, want api.Vec
		side    int
	}{
		// Of two sides that end at one corner the first one is told, of four as near too.
		{q, v(3, 3), v(2, 2), 1}, {q, v(3, -1), v(2, 0), 0}, {q, v(-1, 3), v(0, 2), 2}, {q, v(-1, -1), v(0, 0), 0}, {q, v(1, 1), v(1, 0), 0}, {q, v(1.5, 1.5), v(2, 1.5), 1}, {q, v(0.5, 1), v(0, 1), 3}, {q, v(1, 1.5), v(1, 2), 2},
		{q, v(0, 0), v(0, 0), 0}, {q, v(2, 2), v(2, 2), 1}, {q, v(0, 2), v(0, 2), 2}, {q, v(minus, 1), v(0, 1), 3},
		{points(minus, minus, 2, minus, 0, 2), v(-3, -3), v(0, 0), 0}, {points(minus, minus, 2, 0, 0, 2), v(-3, -1), v(0, 0), 0}, {points(0, 2, minus, minus, 2, minus), v(-1, minus), v(0, 0), 0},
		{q, v(api.MaxReal, -api.MaxReal), v(2, 0), 0},
		// So far away that a corner is as near as what lies ahead, by rounding.
		{q, v(-api.MaxReal, 1), v(0, 0), 0},
		{points(-api.MaxReal, -api.MaxReal, api.MaxReal, -api.MaxReal, 0, api.MaxReal), v(0, -api.MaxReal/2), v(0, -api.MaxReal), 0},
		{regular(64, 2), v(3, 0), v(2, 0), 0},
	} {
		got, side, e := near.Polygon(c.l, c.p)
		isErr(t, e, api.OK, "Polygon", i)
		isVec(t, got, c.want, "Polygon", i)
		if side != c.side {
			t.Fatalf("Polygon %d is side %d, not %d", i, side, c.side)
		}
	}
}

func TestP10_3PolygonRefuses(t *testing.T) {
	check := func(l []api.Vec, p api.Vec, want api.Errno) {
		t.Helper()
		got, side, e := near.Polygon(l, p)
		isErr(t, e, want, "Polygon", l, p)
		isVec(t, got, api.Vec{}, "Polygon", l, p)
		if side != 0 {
			t.Fatalf("Polygon(%v, %v) is side %d beside an error", l, p, side)
		}
	}
	count := map[api.Errno]int{}
	for _, l := range wrongPolygons() {
		count[poly.Check(l)]++
		for _, p := range append(wrongPlaces(), v(1, 2)) {
			check(l, p, poly.Check(l))
		}
	}
	enough(t, count, 1, api.ErrMany, api.ErrReal, api.ErrPoly)
	for _, p := range wrongPlaces() {
		check(points(0, 0, 2, 0, 2, 2), p, api.ErrReal)
		check(regular(64, 1), p, api.ErrReal)
	}
}

// wantSides are a core's sides, by the chapter's words.
func wantSides(s api.Shape) [][2]api.Vec {
	switch s.Kind {
	case api.Circle:
		return [][2]api.Vec{{s.Points[0], s.Points[0]}}
	case api.Capsule:
		return [][2]api.Vec{{s.Points[0], s.Points[1]}}
	}
	var l [][2]api.Vec
	for i, p := range s.Points {
		l = append(l, [2]api.Vec{p, s.Points[(i+1)%len(s.Points)]})
	}
	return l
}

// isIn tells whether a polygon has a place, by P6.5's words.
func isIn(s api.Shape, p api.Vec) bool {
	for _, side := range wantSides(s) {
		if cross(less(side[1], side[0]), less(p, side[0])) < 0 {
			return false
		}
	}
	return s.Kind == api.Polygon
}

// wantCores goes by P10.4's three steps, and tells which one it was.
func wantCores(a, b api.Shape) (api.Near, int) {
	for _, p := range b.Points {
		if isIn(a, p) {
			return api.Near{A: p, B: p}, 1
		}
	}
	for _, p := range a.Points {
		if isIn(b, p) {
			return api.Near{A: p, B: p}, 2
		}
	}
	var all []api.Near
	for _, x := range wantSides(a) {
		for _, y := range wantSides(b) {
			all = append(all, wantSegments(x[0], x[1], y[0], y[1]))
		}
	}
	best := all[0]
	for _, n := range all[1:] {
		if n.Far < best.Far {
			best = n
		}
	}
	return best, 3
}

func wantShapes(a, b api.Shape) (api.Near, int) {
	n, step := wantCores(a, b)
	way := less(n.B, n.A)
	if far := length(way); far > 0 {
		u := v(div(way.X, far), div(way.Y, far))
		n.A, n.B = more(n.A, a.Radius, u), more(n.B, -b.Radius, u)
	}
	n.Far = sub(n.Far, add(a.Radius, b.Radius))
	if n.Far <= 0 {
		n.Far = 0
	}
	return n, step
}

func isShapes(t *testing.T, a, b api.Shape) (api.Near, int) {
	t.Helper()
	want, step := wantShapes(a, b)
	got, e := near.Shapes(a, b)
	isErr(t, e, api.OK, "Shapes", a, b)
	isNear(t, got, want, "Shapes", a, b)
	over, e := near.Over(a, b)
	isErr(t, e, api.OK, "Over", a, b)
	isBool(t, over, want.Far == 0, "Over", a, b)
	return got, step
}

func TestP10_4Shapes(t *testing.T) {
	type case4 struct {
		a, b  uint8
		step  int
		apart bool
	}
	count := map[case4]int{}
	overPairs(100000, func(_ *source, a, b api.Shape) {
		n, step := isShapes(t, a, b)
		count[case4{a.Kind, b.Kind, step, n.Far > 0}]++
		n, step = isShapes(t, b, a)
		count[case4{b.Kind, a.Kind, step, n.Far > 0}]++
	})
	kinds := []uint8{api.Circle, api.Capsule, api.Polygon}
	for _, a := range kinds {
		for _, b := range kinds {
			enough(t, count, 300, case4{a, b, 3, true}, case4{a, b, 3, false})
			if a == api.Polygon {
				enough(t, count, 300, case4{a, b, 1, false})
			}
			if b == api.Polygon {
				enough(t, count, 300, case4{a, b, 2, false})
			}
		}
	}
}

func TestP10_4Cores(t *testing.T) {
	q := convex(0, 0, 4, 0, 4, 4, 0, 4)
	in := convex(1, 1, 2, 1, 2, 2)
	for i, c := range []struct {
		a, b api.Shape
		want api.Near
	}{
		// The first point of the other one that lies in it, though a later one or a side is as near.
		{q, pill(1, 9, 9, 3, 3), api.Near{A: v(3, 3), B: v(3, 3)}}, {pill(1, 9, 9, 3, 3), q, api.Near{A: v(3, 3), B: v(3, 3)}}, {q, pill(1, 3, 3, 1, 1), api.Near{A: v(3, 3), B: v(3, 3)}},
		{q, in, api.Near{A: v(1, 1), B: v(1, 1)}}, {in, q, api.Near{A: v(1, 1), B: v(1, 1)}}, {q, convex(5, 5, 3, 3, 6, 3), api.Near{A: v(3, 3), B: v(3, 3)}},
		// Each has points of the other one: those of the second one count.
		{q, moved(q, 1, 1), api.Near{A: v(1, 1), B: v(1, 1)}}, {moved(q, 1, 1), q, api.Near{A: v(4, 4), B: v(4, 4)}},
		// On a side, on a corner: it has them, with their noughts.
		{q, disc(1, 2, minus), api.Near{A: v(2, minus), B: v(2, minus)}}, {disc(1, minus, minus), q, api.Near{A: v(minus, minus), B: v(minus, minus)}}, {q, moved(q, 4, 4), api.Near{A: v(4, 4), B: v(4, 4)}},
		// No point of either lies in the other one: the first of the crossings.
		{convex(-3, -1, 3, -1, 3, 1, -3, 1), convex(-1, -3, 1, -3, 1, 3, -1, 3), api.Near{A: v(1, -1), B: v(1, -1)}}, {convex(-1, -3, 1, -3, 1, 3, -1, 3), convex(-3, -1, 3, -1, 3, 1, -3, 1), api.Near{A: v(1, -1), B: v(1, -1)}},
		{q, pill(0.25, -1, 2, 5, 2), api.Near{A: v(4, 2), B: v(4, 2)}}, {pill(0.25, -1, 2, 5, 2), q, api.Near{A: v(4, 2), B: v(4, 2)}}, {pill(1, 0, 0, 4, 0), pill(1, 1, -1, 1, 3), api.Near{A: v(1, 0), B: v(1, 0)}},
		// A circle's middle that lies in a capsule or a circle is not asked for.
		{pill(2, 0, 0, 4, 0), disc(1, 2, 1), api.Near{A: v(2, 2), B: v(2, 0)}}, {disc(1, 2, 1), pill(2, 0, 0, 4, 0), api.Near{A: v(2, 0), B: v(2, 2)}},
	} {
		got, e := near.Shapes(c.a, c.b)
		isErr(t, e, api.OK, "Shapes", i)
		isNear(t, got, c.want, "Shapes", i)
		over, e := near.Over(c.a, c.b)
		isErr(t, e, api.OK, "Over", i)
		isBool(t, over, true, "Over", i)
	}
}

func TestP10_4Edges(t *testing.T) {
	q := convex(3, -1, 5, -1, 5, 1, 3, 1)
	for i, c := range []struct {
		a, b api.Shape
		want api.Near
	}{
		// Of several sides as near the first one, of the first one's sides first.
		{q, moved(q, 4, 0), api.Near{Far: 2, A: v(5, -1), B: v(7, -1)}}, {moved(q, 4, 0), q, api.Near{Far: 2, A: v(7, -1), B: v(5, -1)}}, {q, pill(0.5, 9, 1, 9, -1), api.Near{Far: 3.5, A: v(5, -1), B: v(8.5, -1)}},
		{pill(0.5, 9, 1, 9, -1), q, api.Near{Far: 3.5, A: v(8.5, -1), B: v(5, -1)}}, {q, disc(0.5, 9, 0), api.Near{Far: 3.5, A: v(5, 0), B: v(8.5, 0)}}, {disc(0.5, 2, -2), disc(1, 2, 1), api.Near{Far: 1.5, A: v(2, -1.5), B: v(2, 0)}},
		// They touch just so, they overlap by the radii alone, they are apart by the least.
		{disc(1, 0, 0), disc(2, 3, 0), api.Near{A: v(1, 0), B: v(1, 0)}}, {disc(1, 0, 0), disc(2, 0, 1), api.Near{A: v(0, 1), B: v(0, -1)}}, {disc(1, 0, 0), disc(2, math.Nextafter(3, 4), 0), api.Near{Far: 0x1p-51, A: v(1, 0), B: v(1+0x1p-51, 0)}},
		{disc(1, 0, 0), disc(2, math.Nextafter(3, 0), 0), api.Near{A: v(1, 0), B: v(1-0x1p-51, 0)}},
		// The sum of both radii is rounded ahead of the difference.
		{disc(1, 0, 0), disc(0x1p-30, 0x1p24, 0), api.Near{Far: 0x1p24 - 1, A: v(1, 0), B: v(0x1p24, 0)}}, {disc(1+0x1p-52, 0, 0), disc(1, 4, 0), api.Near{Far: 2, A: v(1+0x1p-52, 0), B: v(3, 0)}},
		// No way from the one to the other: both stay, with their noughts.
		{disc(1, minus, minus), disc(1, minus, 0), api.Near{A: v(minus, minus), B: v(minus, 0)}}, {pill(1, minus, 4, 8, 4), pill(1, minus, 4, 8, 4), api.Near{A: v(minus, 4), B: v(0, 4)}}, {disc(1, 0, 0), disc(1, 0x1p-600, 0), api.Near{A: v(0, 0), B: v(0x1p-600, 0)}},
		// A polygon's radius is nought, and goes into the sum: what it leads along takes or leaves a nought's sign.
		{convex(minus, minus, 2, 0, 0, 2), disc(1, -4, -3), api.Near{Far: 4, A: v(minus, minus), B: v(-3.2, -2.4)}}, {convex(minus, minus, -2, 1, -2, -1), disc(1, 4, 3), api.Near{Far: 4, A: v(0, 0), B: v(3.2, 2.4)}},
		{api.Shape{Kind: api.Polygon, Radius: minus, Points: points(minus, minus, 2, 0, 0, 2)}, disc(1, -4, -3), api.Near{Far: 4, A: v(0, 0), B: v(-3.2, -2.4)}}, {disc(1, 4, 2), convex(minus, minus, minus, 4, -4, 2), api.Near{Far: 3, A: v(3, 2), B: v(0, 2)}},
		{disc(1, -4, minus), disc(1, 4, minus), api.Near{Far: 6, A: v(-3, 0), B: v(3, minus)}}, {disc(1, 4, minus), disc(1, -4, minus), api.Near{Far: 6, A: v(3, 0), B: v(-3, minus)}},
		{disc(api.MaxReal, -api.MaxReal, 0), disc(api.MinReal, api.MaxReal, 0), api.Near{Far: api.MaxReal, A: v(0, 0), B: v(api.MaxReal, 0)}},
	} {
		got, e := near.Shapes(c.a, c.b)
		isErr(t, e, api.OK, "Shapes", i)
		isNear(t, got, c.want, "Shapes", i)
		over, e := near.Over(c.a, c.b)
		isErr(t, e, api.OK, "Over", i)
		isBool(t, over, c.want.Far == 0, "Over", i)
		isShapes(t, c.b, c.a)
	}
}

func TestP10_4Refuses(t *testing.T) {
	check := func(a, b api.Shape, want api.Errno) {
		t.Helper()
		got, e := near.Shapes(a, b)
		isErr(t, e, want, "Shapes", a, b)
		isNear(t, got, api.Near{}, "Shapes", a, b)
		over, e := near.Over(a, b)
		isErr(t, e, want, "Over", a, b)
		isBool(t, over, false, "Over", a, b)
	}
	right := []api.Shape{disc(1, 0, 0), pill(1, 0, 0, 1, 0), convex(0, 0, 2, 0, 2, 2)}
	count := map[api.Errno]int{}
	for _, a := range wrongShapes() {
		want := shape.Check(a)
		count[want]++
		for _, b := range append(wrongShapes(), right...) {
			check(a, b, want)
		}
		for _, b := range right {
			check(b, a, want)
		}
	}
	enough(t, count, 2, api.ErrKind, api.ErrShape, api.ErrReal, api.ErrPoly)
}

func TestP10_5OtherWay(t *testing.T) {
	overPairs(100000, func(_ *source, a, b api.Shape) {
		there, _ := near.Shapes(a, b)
		back, _ := near.Shapes(b, a)
		isFloat(t, back.Far, there.Far, "Shapes, the other way,", a, b)
	})
}

func TestP10_5Itself(t *testing.T) {
	count := map[uint8]int{}
	overPairs(50000, func(_ *source, a, b api.Shape) {
		for _, w := range []api.Shape{a, b} {
			n, e := near.Shapes(w, w)
			isErr(t, e, api.OK, "Shapes", w)
			isFloat(t, n.Far, 0, "Shapes with itself", w)
			over, _ := near.Over(w, w)
			isBool(t, over, true, "Over with itself", w)
			count[w.Kind]++
		}
	})
	enough(t, count, 5000, api.Circle, api.Capsule, api.Polygon)
}

func TestP10_5PowersOfTwo(t *testing.T) {
	count := map[int]int{}
	check := func(a, b api.Shape, k int) {
		t.Helper()
		by := math.Ldexp(1, k)
		great, other := scaled(a, by), scaled(b, by)
		if shape.Check(great) != api.OK || shape.Check(other) != api.OK {
			return
		}
		n, _ := near.Shapes(a, b)
		got, e := near.Shapes(great, other)
		isErr(t, e, api.OK, "Shapes", a, b, by)
		isNear(t, got, api.Near{Far: n.Far * by, A: scaledVec(n.A, by), B: scaledVec(n.B, by)}, "Shapes", a, b, by)
		over, _ := near.Over(great, other)
		isBool(t, over, n.Far == 0, "Over", a, b, by)
		count[k]++
	}
	overPairs(60000, func(s *source, a, b api.Shape) { check(a, b, s.below(17)-8) })
	for k := -8; k <= 8; k++ {
		check(disc(1, 0, 0), pill(1, 0, 4, 8, 4), k)
		check(pill(0.3, 1, 1, 2, 2), convex(3, -1, 5, -1, 5, 1, 3, 1), k)
		enough(t, count, 2000, k)
	}
}

// core is a place of a shape's core: a point of it, or one of a side.
func (s *source) core(w api.Shape) api.Vec {
	l := wantSides(w)
	side := l[s.below(len(l))]
	t := []float64{0, 1, s.part()}[s.below(3)]
	return v(side[0].X+t*(side[1].X-side[0].X), side[0].Y+t*(side[1].Y-side[0].Y))
}

// isSmall tells whether no float is above 2^20.
func isSmall(shapes ...api.Shape) bool {
	for _, w := range shapes {
		if w.Radius > 0x1p20 {
			return false
		}
		for _, p := range w.Points {
			if math.Abs(p.X) > 0x1p20 || math.Abs(p.Y) > 0x1p20 {
				return false
			}
		}
	}
	return true
}

func TestP10_5HowFar(t *testing.T) {
	count := map[string]int{}
	overPairs(60000, func(s *source, a, b api.Shape) {
		if !isSmall(a, b) {
			return
		}
		n, _ := near.Shapes(a, b)
		atMost := func(p, q api.Vec) {
			t.Helper()
			if most := max(math.Hypot(p.X-q.X, p.Y-q.Y)-a.Radius-b.Radius, 0); n.Far > most+0x1p-20 {
				t.Fatalf("Shapes(%v, %v) is %v, but %v and %v are %v apart", a, b, n, p, q, most)
			}
		}
		for _, p := range a.Points {
			for _, q := range b.Points {
				atMost(p, q)
			}
		}
		for range 4 {
			atMost(s.core(a), s.core(b))
		}
		count["all"]++
		if n.Far > 0x1p-10 {
			count["apart"]++
			if far := math.Hypot(n.B.X-n.A.X, n.B.Y-n.A.Y); math.Abs(far-n.Far) > 0x1p-20 {
				t.Fatalf("Shapes(%v, %v) is %v, its places %v apart", a, b, n, far)
			}
		}
	})
	enough(t, count, 20000, "all", "apart")
}

// roomy is a list with spare room, which must stay as it is too.
func roomy(l []api.Vec) []api.Vec {
	room := make([]api.Vec, len(l)+4)
	for i := range room {
		room[i] = v(7, float64(i))
	}
	copy(room, l)
	return room[:len(l)]
}

func TestOnlyRead(t *testing.T) {
	overPairs(5000, func(s *source, a, b api.Shape) {
		a.Points, b.Points = roomy(a.Points), roomy(b.Points)
		keptA, keptB := slices.Clone(a.Points[:cap(a.Points)]), slices.Clone(b.Points[:cap(b.Points)])
		near.Shapes(a, b)
		near.Over(a, b)
		near.Polygon(a.Points, s.place())
		if !slices.EqualFunc(a.Points[:cap(a.Points)], keptA, sameVec) || !slices.EqualFunc(b.Points[:cap(b.Points)], keptB, sameVec) {
			t.Fatalf("of %v and %v something was changed", keptA, keptB)
		}
	})
}

func TestExamples(t *testing.T) {
	point := func(a, b, p, want api.Vec, along float64) {
		t.Helper()
		got, gotAlong := near.Point(a, b, p)
		isVec(t, got, want, "Point", a, b, p)
		isFloat(t, gotAlong, along, "Point", a, b, p)
	}
	point(v(0, 0), v(4, 0), v(1, 3), v(1, 0), 0.25)
	point(v(0, 0), v(4, 0), v(9, 9), v(4, 0), 1)
	point(v(2, 2), v(2, 2), v(5, 5), v(2, 2), 0)
	isNear(t, near.Segments(v(0, 0), v(4, 0), v(2, -1), v(2, 3)), api.Near{A: v(2, 0), B: v(2, 0)}, "Segments")
	isNear(t, near.Segments(v(0, 0), v(4, 0), v(0, 1), v(4, 1)), api.Near{Far: 1, A: v(0, 0), B: v(0, 1)}, "Segments")
	isNear(t, near.Segments(v(0, 0), v(1, 0), v(3, 0), v(2, 0)), api.Near{Far: 1, A: v(1, 0), B: v(2, 0)}, "Segments")
	q := convex(3, -1, 5, -1, 5, 1, 3, 1)
	polygon := func(p, want api.Vec, side int) {
		t.Helper()
		got, gotSide, e := near.Polygon(q.Points, p)
		isErr(t, e, api.OK, "Polygon", p)
		isVec(t, got, want, "Polygon", p)
		if gotSide != side {
			t.Errorf("Polygon(%v) is side %d, not %d", p, gotSide, side)
		}
	}
	polygon(v(6, 0), v(5, 0), 1)
	polygon(v(4, 0), v(4, -1), 0)
	polygon(v(9, 9), v(5, 1), 1)
}

func TestExamplesOfShapes(t *testing.T) {
	c, s, q := disc(1, 0, 0), pill(1, 0, 4, 8, 4), convex(3, -1, 5, -1, 5, 1, 3, 1)
	for _, x := range []struct {
		a, b api.Shape
		want api.Near
	}{
		{c, s, api.Near{Far: 2, A: v(0, 1), B: v(0, 3)}}, {c, q, api.Near{Far: 2, A: v(1, 0), B: v(3, 0)}}, {s, s, api.Near{A: v(0, 4), B: v(0, 4)}},
		{q, disc(2, 4, 0), api.Near{A: v(4, 0), B: v(4, 0)}}, {c, disc(1, 1, 0), api.Near{A: v(1, 0), B: v(0, 0)}},
	} {
		got, e := near.Shapes(x.a, x.b)
		isErr(t, e, api.OK, "Shapes", x.a, x.b)
		isNear(t, got, x.want, "Shapes", x.a, x.b)
	}
	over, e := near.Over(c, q)
	isErr(t, e, api.OK, "Over")
	isBool(t, over, false, "Over")
}
