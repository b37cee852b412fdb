package ray_test

import (
	"math"
	"slices"
	"testing"

	"tumble/api"
	"tumble/poly"
	"tumble/ray"
	"tumble/shape"
)

var (
	minus = math.Copysign(0, -1)
	none  = math.NaN()
	inf   = math.Inf(1)
	past  = math.Nextafter(api.MaxReal, inf)
	short = math.Nextafter(api.MinReal, 0)
)

// tiny is the least float above nought.
const tiny = 0x1p-1074

func v(x, y float64) api.Vec { return api.Vec{X: x, Y: y} }

// points are told by their parts, one after the other.
func points(l ...float64) []api.Vec {
	var p []api.Vec
	for i := 0; i < len(l); i += 2 {
		p = append(p, v(l[i], l[i+1]))
	}
	return p
}

// disc, pill and convex are the three kinds, their points told by parts.
func disc(radius float64, l ...float64) api.Shape {
	return api.Shape{Kind: api.Circle, Radius: radius, Points: points(l...)}
}

func pill(radius float64, l ...float64) api.Shape {
	return api.Shape{Kind: api.Capsule, Radius: radius, Points: points(l...)}
}

func convex(l ...float64) api.Shape { return api.Shape{Kind: api.Polygon, Points: points(l...)} }

func square() []api.Vec { return points(0, 0, 2, 0, 2, 2, 0, 2) }

// regular has its points on a circle.
func regular(n int, far float64) []api.Vec {
	l := make([]api.Vec, n)
	for i := range l {
		a := 2 * math.Pi * float64(i) / float64(n)
		l[i] = v(far*math.Cos(a), far*math.Sin(a))
	}
	return l
}

func hit(part float64, at, normal api.Vec) api.Hit {
	return api.Hit{Part: part, At: at, Normal: normal}
}

func scaledVec(p api.Vec, by float64) api.Vec { return v(p.X*by, p.Y*by) }

func scaled(s api.Shape, by float64) api.Shape {
	l := slices.Clone(s.Points)
	for i := range l {
		l[i] = scaledVec(l[i], by)
	}
	return api.Shape{Kind: s.Kind, Radius: s.Radius * by, Points: l}
}

// The oracle rounds each operation by itself: a call that is not inlined can't be worked out as one with the next.
//
//go:noinline
func add(a, b float64) float64 { return a + b }

//go:noinline
func sub(a, b float64) float64 { return a - b }

//go:noinline
func mul(a, b float64) float64 { return a * b }

//go:noinline
func div(a, b float64) float64 { return a / b }

func sum(a, b api.Vec) api.Vec { return v(add(a.X, b.X), add(a.Y, b.Y)) }

func less(a, b api.Vec) api.Vec { return v(sub(a.X, b.X), sub(a.Y, b.Y)) }

func more(a api.Vec, by float64, b api.Vec) api.Vec {
	return v(add(a.X, mul(by, b.X)), add(a.Y, mul(by, b.Y)))
}

func neg(a api.Vec) api.Vec { return v(-a.X, -a.Y) }

func right(a api.Vec) api.Vec { return v(a.Y, -a.X) }

func left(a api.Vec) api.Vec { return v(-a.Y, a.X) }

func dot(a, b api.Vec) float64 { return add(mul(a.X, b.X), mul(a.Y, b.Y)) }

func cross(a, b api.Vec) float64 { return sub(mul(a.X, b.Y), mul(a.Y, b.X)) }

func length(a api.Vec) float64 { return math.Sqrt(dot(a, a)) }

// unit is the zero way, where there is none; it is asked of no way that is infinite.
func unit(a api.Vec) api.Vec {
	n := length(a)
	if n == 0 {
		return api.Vec{}
	}
	return v(div(a.X, n), div(a.Y, n))
}

// same is told by bits, apart from what the package does.
func same(a, b float64) bool {
	if math.IsNaN(a) || math.IsNaN(b) {
		return math.IsNaN(a) && math.IsNaN(b)
	}
	return math.Float64bits(a) == math.Float64bits(b)
}

func sameVec(a, b api.Vec) bool { return same(a.X, b.X) && same(a.Y, b.Y) }

func sameHit(a, b api.Hit) bool {
	return same(a.Part, b.Part) && sameVec(a.At, b.At) && sameVec(a.Normal, b.Normal)
}

// told is what a call answers.
type told struct {
	hit api.Hit
	is  bool
	e   api.Errno
}

func tell(h api.Hit, is bool, e api.Errno) told { return told{h, is, e} }

func isTold(t *testing.T, got, want told, call string, args ...any) {
	t.Helper()
	if !sameHit(got.hit, want.hit) || got.is != want.is || got.e != want.e {
		t.Fatalf("%s%v tells %v, not %v", call, args, got, want)
	}
}

// enough tells of each kind whether it came up so often.
func enough[K comparable](t *testing.T, count map[K]int, least int, kinds ...K) {
	t.Helper()
	for _, k := range kinds {
		if count[k] < least {
			t.Errorf("too few of %v: %v", k, count)
		}
	}
}

// source makes floats from a rule of whole numbers: the same ones in each run.
type source uint64

func (s *source) next() uint64 {
	*s = *s*6364136223846793005 + 1442695040888963407
	return uint64(*s >> 31)
}

func (s *source) below(n int) int { return int(s.next() % uint64(n)) }

// whole is from -most to most.
func (s *source) whole(most int) float64 { return float64(s.below(2*most+1) - most) }

// plain has all its bits in use, and is from some 2^-20 to 2^20.
func (s *source) plain() float64 {
	whole := int64(s.next()<<20^s.next())&(1<<53-1) - 1<<52
	return math.Ldexp(float64(whole), s.below(40)-72)
}

// part is from 0 to 1.
func (s *source) part() float64 { return float64(s.next()&(1<<30-1)) / (1 << 30) }

// few are from few floats, so that places are often equal, in line or on borders, noughts among them.
func (s *source) few() float64 { return []float64{-2, -1, minus, 0, 1, 2}[s.below(6)] }

// edge is a float at which something may change; all may be a place's.
func (s *source) edge() float64 {
	return []float64{-api.MaxReal, -0x1p20, -1, -short, -tiny, minus, 0, tiny, 0x1p-600, api.MinReal, 1, 0x1p20, api.MaxReal}[s.below(13)]
}

func (s *source) place() api.Vec {
	switch s.below(8) {
	case 0:
		return v(s.edge(), s.edge())
	case 1, 2, 3, 4:
		return v(s.few(), s.few())
	}
	return v(s.plain(), s.plain())
}

// radius is from MinReal to 2^20.
func (s *source) radius() float64 {
	if s.below(2) == 0 {
		return []float64{0.25, 0.5, 1, 2}[s.below(4)]
	}
	return math.Ldexp(1+s.part(), s.below(50)-30)
}

// ring are points of a circle, rising by their angles: most often a polygon.
func (s *source) ring(n int) []api.Vec {
	middle, far := s.place(), math.Ldexp(1+s.part(), s.below(25)-10)
	angles := make([]float64, n)
	for i := range angles {
		angles[i] = s.part() * 2 * math.Pi
	}
	slices.Sort(angles)
	l := make([]api.Vec, n)
	for i, a := range angles {
		l[i] = v(middle.X+far*math.Cos(a), middle.Y+far*math.Sin(a))
	}
	return l
}

// flat are points so near to one line that rounding decides what they are.
func (s *source) flat(n int) []api.Vec {
	way := v(s.part(), s.part())
	l := make([]api.Vec, n)
	for i := range l {
		far := 4 * s.part()
		l[i] = v(way.X*far, way.Y*far)
		if s.below(2) == 0 {
			l[i].X = math.Nextafter(l[i].X, inf)
		}
	}
	return l
}

// coarse are the outermost of points of few floats.
func (s *source) coarse(n int) []api.Vec {
	l := make([]api.Vec, n)
	for i := range l {
		l[i] = v(s.few(), s.few())
	}
	h, _ := poly.Hull(l)
	return h
}

func (s *source) corners() []api.Vec {
	for {
		var l []api.Vec
		switch s.below(6) {
		case 0:
			l = s.flat(3 + s.below(2))
		case 1, 2, 3:
			l = s.coarse(3 + s.below(6))
		default:
			l = s.ring(3 + s.below(6))
		}
		if poly.Check(l) == api.OK {
			// Begun at any of them, so that what is first is not always to the left.
			k := s.below(len(l))
			return append(slices.Clone(l[k:]), l[:k]...)
		}
	}
}

// shape is one of a kind that may be.
func (s *source) shape(kind uint8) api.Shape {
	for {
		w := api.Shape{Kind: kind, Radius: s.radius()}
		switch kind {
		case api.Circle:
			w.Points = []api.Vec{s.place()}
		case api.Capsule:
			w.Points = []api.Vec{s.place(), s.place()}
			if s.below(3) == 0 {
				// Shorter than it is broad, so that its round ends overlap.
				w.Points[1] = more(w.Points[0], w.Radius, v(s.few()*s.part(), s.few()*s.part()))
			}
		default:
			w.Radius, w.Points = []float64{0, minus}[s.below(2)], s.corners()
		}
		if shape.Check(w) == api.OK {
			return w
		}
	}
}

// spot is a place that has to do with a shape: a point of it, one of a side, one of its border, one within or by it.
func (s *source) spot(w api.Shape) api.Vec {
	l := w.Points
	i := s.below(len(l))
	p, q := l[i], l[(i+1)%len(l)]
	at := more(p, s.part(), less(q, p))
	switch s.below(7) {
	case 0:
		return p
	case 1:
		return at
	case 2:
		return more(at, s.part(), less(l[s.below(len(l))], at))
	case 3:
		// Just a radius from a point, or from a side.
		return more(at, w.Radius, unit(left(less(q, p))))
	case 4:
		return more(p, w.Radius, []api.Vec{v(1, 0), v(0, 1), v(-1, 0), v(0, -1), v(0.6, 0.8), v(-0.8, 0.6)}[s.below(6)])
	case 5:
		return more(p, 2*w.Radius, v(s.part()-0.5, s.part()-0.5))
	}
	return more(p, 1+2*w.Radius, v(s.few(), s.few()))
}

// ahead leads from a place to what has to do with a shape, just there, beyond it or not as far; along a side; or anywhere.
func (s *source) ahead(w api.Shape, from api.Vec) api.Vec {
	way := less(s.spot(w), from)
	switch s.below(10) {
	case 0, 1, 2:
	case 3:
		way = scaledVec(way, 0.5+s.part())
	case 4:
		way = scaledVec(way, 2*s.part())
	case 5:
		i := s.below(len(w.Points))
		way = scaledVec(less(w.Points[(i+1)%len(w.Points)], w.Points[i]), s.few())
	case 6:
		way = s.place()
	case 7:
		way = v(s.few(), s.few())
	default:
		way = scaledVec(way, 4)
	}
	return way
}

func isPlace(p api.Vec) bool { return math.Abs(p.X) <= api.MaxReal && math.Abs(p.Y) <= api.MaxReal }

// isRay tells whether a ray may be.
func isRay(from, way api.Vec) bool {
	return isPlace(from) && isPlace(way) && length(way) >= api.MinReal
}

// ray is one that may be, and often meets a shape.
func (s *source) ray(w api.Shape) (from, way api.Vec) {
	for {
		from = s.place()
		if s.below(3) > 0 {
			from = s.spot(w)
		}
		if s.below(3) == 0 {
			from = more(from, 2+4*w.Radius, v(s.few(), s.few()))
		}
		way = s.ahead(w, from)
		if isRay(from, way) {
			return from, way
		}
	}
}

// overRays hands over shapes of a kind and rays that may be.
func overRays(n int, kind uint8, f func(s *source, w api.Shape, from, way api.Vec)) {
	s := source(5)
	for range n {
		w := s.shape(kind)
		for range 3 {
			from, way := s.ray(w)
			f(&s, w, from, way)
		}
	}
}

func allKinds() []uint8 { return []uint8{api.Circle, api.Capsule, api.Polygon} }

// wrongPlaces are not Within MaxReal.
func wrongPlaces() []api.Vec {
	var l []api.Vec
	for _, f := range []float64{none, inf, -inf, past, -past, math.MaxFloat64} {
		l = append(l, v(f, 0), v(1, f), v(f, f))
	}
	return l
}

// wrongWays are not Within MaxReal, or too short.
func wrongWays() []api.Vec {
	return append(wrongPlaces(), v(0, 0), v(minus, minus), v(short, 0), v(0, -short), v(0x1p-31, 0x1p-31), v(tiny, tiny), v(0x1p-600, 0))
}

// wrongRays hands over what is wrong with a ray, and what is to be told of it.
func wrongRays(f func(from, way api.Vec, want api.Errno)) {
	for _, from := range wrongPlaces() {
		f(from, v(1, 0), api.ErrReal)
		for _, way := range wrongWays() {
			f(from, way, api.ErrReal)
		}
	}
	for _, way := range wrongWays() {
		f(v(-5, 0), way, api.ErrRay)
		f(v(0, 0), way, api.ErrRay)
	}
}

// wrongRadii are not from MinReal to MaxReal.
func wrongRadii() []float64 {
	return []float64{none, inf, -inf, past, short, 0, minus, -1, -api.MinReal, tiny, math.MaxFloat64}
}

// wrongPolygons are such as poly.Check refuses, with each of its errors.
func wrongPolygons() [][]api.Vec {
	return [][]api.Vec{
		nil, {}, points(1, 1), points(0, 0, 1, 0), points(0, 2, 2, 2, 2, 0, 0, 0), points(0, 0, 1, 0, 2, 0, 2, 2, 0, 2), points(0, 0, 1, 1, 2, 2),
		points(0, 0, 2, 0, 2, none), points(past, 0), points(0, 0, 2, 0, 2, -inf, 0, 2),
		make([]api.Vec, 64), make([]api.Vec, 65), regular(65, 1), slices.Repeat(points(none, 0), 65),
	}
}

// wrongShapes are such as shape.Check refuses, with each of its errors.
func wrongShapes() []api.Shape {
	return []api.Shape{
		{}, {Kind: 4, Radius: 1, Points: points(0, 0)}, {Kind: 255}, disc(1), disc(1, 0, 0, 1, 1), pill(1, 0, 0), pill(1, 0, 0, 1, 1, 2, 2), convex(0, 0, 1, 0),
		disc(0, 0, 0), disc(-1, 0, 0), disc(short, 0, 0), disc(past, 0, 0), disc(none, 0, 0), disc(inf, 0, 0), disc(1, none, 0), disc(1, 0, past),
		pill(1, 2, 2, 2, 2), pill(1, 0, 0, short, 0), pill(0, 0, 0, 1, 1), pill(1, 0, 0, -inf, 0), convex(0, 2, 2, 2, 2, 0), convex(0, 0, 1, 1, 2, 2), convex(0, 0, 2, 0, none, 2),
		{Kind: api.Polygon, Radius: 1, Points: points(0, 0, 2, 0, 2, 2)}, {Kind: api.Polygon, Radius: none, Points: points(0, 0, 2, 0, 2, 2)}, {Kind: api.Polygon, Points: regular(9, 1)}, {Kind: api.Polygon},
	}
}

// rightShapes are some of each kind.
func rightShapes() []api.Shape {
	return []api.Shape{disc(1, 0, 0), pill(0.5, 0, -1, 0, 1), {Kind: api.Polygon, Points: square()}, {Kind: api.Polygon, Radius: minus, Points: regular(8, 2)}}
}

// wantCircle goes by P12.1's words, and says which of them decided.
func wantCircle(centre api.Vec, radius float64, from, way api.Vec) (told, string) {
	m := less(from, centre)
	a, b := dot(way, way), dot(m, way)
	c := sub(dot(m, m), mul(radius, radius))
	if c <= 0 {
		return told{hit: hit(0, from, v(0, 0)), is: true}, "within"
	}
	if b >= 0 {
		return told{}, "away"
	}
	d := sub(mul(b, b), mul(a, c))
	if d < 0 {
		return told{}, "beside"
	}
	t := div(sub(-b, math.Sqrt(d)), a)
	if t < 0 || t > 1 {
		return told{}, "too far"
	}
	at := more(from, t, way)
	return told{hit: hit(t, at, unit(less(at, centre))), is: true}, "hit"
}

func TestP12_1Circle(t *testing.T) {
	count := map[string]int{}
	overRays(50000, api.Circle, func(_ *source, w api.Shape, from, way api.Vec) {
		want, why := wantCircle(w.Points[0], w.Radius, from, way)
		isTold(t, tell(ray.Circle(w.Points[0], w.Radius, from, way)), want, "Circle", w, from, way)
		if want.is && why == "hit" && want.hit.Normal == v(0, 0) {
			why = "without a normal"
		}
		count[why]++
	})
	enough(t, count, 3000, "within", "away", "beside", "too far", "hit")
	enough(t, count, 100, "without a normal")
}

func TestP12_1CircleEdges(t *testing.T) {
	in := math.Nextafter(5, 0)
	for i, c := range []struct {
		centre    api.Vec
		radius    float64
		from, way api.Vec
		want      told
	}{
		// At the border from lies in it, and At is from as it came.
		{v(0, 0), 5, v(-5, minus), v(10, 0), told{hit(0, v(-5, minus), v(0, 0)), true, 0}}, {v(0, 0), 5, v(3, 4), v(1, 1), told{hit(0, v(3, 4), v(0, 0)), true, 0}}, {v(minus, minus), 1, v(minus, minus), v(-1, -1), told{hit(0, v(minus, minus), v(0, 0)), true, 0}},
		// By the least from outside it, and not nearer on the way: nothing.
		{v(0, 0), in, v(-5, 0), v(-1, 0), told{}}, {v(0, 0), in, v(-5, 0), v(0, 1), told{}}, {v(0, 0), 1, v(-5, 0), v(0, 9), told{}},
		// The border is touched, is missed by the least; what lies behind is not met.
		{v(0, 1), 1, v(-5, 0), v(10, 0), told{hit(0.5, v(0, 0), v(0, -1)), true, 0}}, {v(0, 1+0x1p-30), 1, v(-5, 0), v(10, 0), told{}}, {v(-9, 0), 1, v(-5, 0), v(10, 0), told{}},
		// The way's end is the first place of it, is not as far.
		{v(0, 0), 1, v(-5, 0), v(4, 0), told{hit(1, v(-1, 0), v(-1, 0)), true, 0}}, {v(0, 0), 1, v(-5, 0), v(4-0x1p-40, 0), told{}}, {v(0, 0), 1, v(-5, 0), v(8, 0), told{hit(0.5, v(-1, 0), v(-1, 0)), true, 0}},
		{v(0, 0), 1, v(0, 3), v(0, -8), told{hit(0.25, v(0, 1), v(0, 1)), true, 0}}, {v(1, 1), 5, v(7, 9), v(-6, -8), told{hit(0.5, v(4, 5), v(0.6, 0.8)), true, 0}},
		// Noughts come out as More and Unit make them.
		{v(0, 0), 1, v(-5, minus), v(8, minus), told{hit(0.5, v(-1, minus), v(-1, minus)), true, 0}}, {v(0, minus), 1, v(-5, minus), v(8, minus), told{hit(0.5, v(-1, minus), v(-1, 0)), true, 0}}, {v(0, 0), 1, v(-5, minus), v(8, 0), told{hit(0.5, v(-1, 0), v(-1, 0)), true, 0}},
		// The place rounds to the centre: there is no normal.
		{v(0x1p40, 0), api.MinReal, v(0, 0), v(0x1p40, 0), told{hit(1, v(0x1p40, 0), v(0, 0)), true, 0}}, {v(0x1p40, 0), 0x1p-30, v(0, 0), v(0x1p39, 0), told{}},
		// The ends of what may be.
		{v(0x1p40, 0), 0x1p40, v(-0x1p40, 0), v(0x1p40, 0), told{hit(1, v(0, 0), v(-1, 0)), true, 0}}, {v(0, 0), api.MinReal, v(-1, 0), v(1, 0), told{hit(1, v(0, 0), v(0, 0)), true, 0}}, {v(0, 0), api.MinReal, v(-0x1p-29, 0), v(0x1p-28, 0), told{hit(0.25, v(-0x1p-30, 0), v(-1, 0)), true, 0}}, {v(0, 0), 1, v(-1-0x1p-30, 0), v(api.MinReal, 0), told{hit(1, v(-1, 0), v(-1, 0)), true, 0}},
		// The radius's square is rounded, and so is the difference.
		{v(0, 0), 0x1p-30, v(-1, 0), v(0, 1), told{}}, {v(0, 0), 1 + 0x1p-52, v(-1, -0x1p-26), v(1, 0), told{hit(0, v(-1, -0x1p-26), v(0, 0)), true, 0}},
	} {
		isTold(t, tell(ray.Circle(c.centre, c.radius, c.from, c.way)), c.want, "Circle", i)
	}
}

func TestP12_1Refuses(t *testing.T) {
	check := func(centre api.Vec, radius float64, from, way api.Vec, want api.Errno) {
		t.Helper()
		isTold(t, tell(ray.Circle(centre, radius, from, way)), told{e: want}, "Circle", centre, radius, from, way)
	}
	wrongRays(func(from, way api.Vec, want api.Errno) {
		check(v(0, 0), 1, from, way, want)
		check(v(0, 0), api.MaxReal, from, way, want)
		// What stands ahead is told ahead.
		check(v(none, 0), 1, from, way, api.ErrReal)
		check(v(0, 0), 0, from, way, api.ErrReal)
	})
	for _, centre := range wrongPlaces() {
		check(centre, 1, v(-5, 0), v(10, 0), api.ErrReal)
		check(centre, 1, v(-5, 0), v(0, 0), api.ErrReal)
	}
	for _, radius := range wrongRadii() {
		check(v(0, 0), radius, v(-5, 0), v(10, 0), api.ErrReal)
		check(v(-5, 0), radius, v(-5, 0), v(10, 0), api.ErrReal)
		check(v(0, 0), radius, v(-5, 0), v(0, 0), api.ErrReal)
	}
}

// wantSegment goes by P12.2's words; a segment that may not be is refused ahead of them.
func wantSegment(a, b, from, way api.Vec) (told, string) {
	s := less(b, a)
	if !isPlace(a) || !isPlace(b) || length(s) < api.MinReal {
		return told{e: api.ErrReal}, "refused"
	}
	d, w := cross(way, s), less(a, from)
	if d == 0 {
		return told{}, "along"
	}
	t, u := div(cross(w, s), d), div(cross(w, way), d)
	if t < 0 || t > 1 {
		return told{}, "not as far"
	}
	if u < 0 || u > 1 {
		return told{}, "beside"
	}
	n, why := unit(right(s)), "from the right"
	if dot(n, way) > 0 {
		n, why = neg(n), "from the left"
	}
	return told{hit: hit(t, more(from, t, way), n), is: true}, why
}

func TestP12_2Segment(t *testing.T) {
	count := map[string]int{}
	check := func(a, b, from, way api.Vec) {
		t.Helper()
		want, why := wantSegment(a, b, from, way)
		isTold(t, tell(ray.Segment(a, b, from, way)), want, "Segment", a, b, from, way)
		count[why]++
		switch {
		case want.is && same(want.hit.Part, minus):
			count["minus nought"]++
		case want.is && want.hit.Part == 1:
			count["at the end"]++
		}
	}
	overRays(40000, api.Capsule, func(_ *source, w api.Shape, from, way api.Vec) { check(w.Points[0], w.Points[1], from, way) })
	overRays(10000, api.Polygon, func(s *source, w api.Shape, from, way api.Vec) {
		i := s.below(len(w.Points))
		check(w.Points[i], w.Points[(i+1)%len(w.Points)], from, way)
	})
	enough(t, count, 3000, "along", "not as far", "beside", "from the right", "from the left")
	enough(t, count, 100, "minus nought", "at the end")
}

func TestP12_2SegmentEdges(t *testing.T) {
	for i, c := range []struct {
		a, b, from, way api.Vec
		want            told
	}{
		// From either side, the segment either way, the noughts as they come.
		{v(0, -1), v(0, 1), v(-5, 0), v(10, 0), told{hit(0.5, v(0, 0), v(-1, 0)), true, 0}}, {v(0, 1), v(0, -1), v(-5, 0), v(10, 0), told{hit(0.5, v(0, 0), v(-1, minus)), true, 0}},
		{v(0, -1), v(0, 1), v(5, 0), v(-10, 0), told{hit(0.5, v(0, 0), v(1, minus)), true, 0}}, {v(0, 1), v(0, -1), v(5, 0), v(-10, 0), told{hit(0.5, v(0, 0), v(1, 0)), true, 0}},
		{v(0, 0), v(4, 4), v(4, 0), v(-4, 4), told{hit(0.5, v(2, 2), unit(v(1, -1))), true, 0}}, {v(0, 0), v(4, 3), v(2, 9), v(0, -10), told{hit(0.75, v(2, 1.5), v(-0.6, 0.8)), true, 0}},
		// At the segment's ends, beyond them by the least.
		{v(0, 0), v(0, 2), v(-5, 0), v(10, 0), told{hit(0.5, v(0, 0), v(-1, 0)), true, 0}}, {v(0, 0), v(0, 2), v(-5, 2), v(10, 0), told{hit(0.5, v(0, 2), v(-1, 0)), true, 0}},
		{v(0, 0), v(0, 2), v(-5, -0x1p-40), v(10, 0), told{}}, {v(0, 0), v(0, 2), v(-5, 2+0x1p-40), v(10, 0), told{}}, {v(0, 2), v(0, 0), v(-5, 2+0x1p-40), v(10, 0), told{}},
		// At the way's ends, beyond them by the least; nothing lies in a segment.
		{v(0, -1), v(0, 1), v(-5, 0), v(5, 0), told{hit(1, v(0, 0), v(-1, 0)), true, 0}}, {v(0, -1), v(0, 1), v(-5, 0), v(5-0x1p-40, 0), told{}}, {v(0, -1), v(0, 1), v(0x1p-40, 0), v(5, 0), told{}},
		{v(0, -1), v(0, 1), v(0, 0), v(5, 0), told{hit(0, v(0, 0), v(-1, 0)), true, 0}}, {v(0, -1), v(0, 1), v(minus, minus), v(5, 0), told{hit(0, v(0, 0), v(-1, 0)), true, 0}},
		// A minus nought is from 0 to 1, and stays.
		{v(0, -1), v(0, 1), v(minus, minus), v(-5, 0), told{hit(minus, v(0, minus), v(1, minus)), true, 0}},
		// Along it, on it or beside it.
		{v(0, 0), v(1, 0), v(-5, 0), v(10, 0), told{}}, {v(0, 0), v(1, 0), v(0, 0), v(10, 0), told{}}, {v(0, 0), v(1, 0), v(0.5, 0), v(-1, minus), told{}}, {v(0, 0), v(3, 3), v(0, 1), v(2, 2), told{}},
		// So flat that the products alone tell: a quotient may be infinite, or the product nought.
		{v(0, 0), v(0, 1), v(-1, 0), v(tiny, 1), told{}}, {v(0, 0), v(0, 1), v(0, 0), v(tiny, 1), told{hit(0, v(0, 0), v(-1, 0)), true, 0}}, {v(0, 0), v(0, 0x1p-20), v(0, 0), v(tiny, 1), told{}},
		// The ends of what may be.
		{v(-0x1p40, 0x1p40), v(0x1p40, -0x1p40), v(-0x1p40, -0x1p40), v(0x1p40, 0x1p40), told{hit(1, v(0, 0), unit(v(-1, -1))), true, 0}}, {v(0, 0), v(0, api.MinReal), v(-1, 0), v(2, 0), told{hit(0.5, v(0, 0), v(-1, 0)), true, 0}},
	} {
		isTold(t, tell(ray.Segment(c.a, c.b, c.from, c.way)), c.want, "Segment", i)
	}
}

func TestP12_2Refuses(t *testing.T) {
	check := func(a, b, from, way api.Vec, want api.Errno) {
		t.Helper()
		isTold(t, tell(ray.Segment(a, b, from, way)), told{e: want}, "Segment", a, b, from, way)
	}
	wrongRays(func(from, way api.Vec, want api.Errno) {
		check(v(0, -1), v(0, 1), from, way, want)
		// What stands ahead is told ahead.
		check(v(none, 0), v(0, 1), from, way, api.ErrReal)
		check(v(0, -1), v(0, past), from, way, api.ErrReal)
		check(v(0, 1), v(0, 1), from, way, api.ErrReal)
	})
	for _, p := range wrongPlaces() {
		for _, way := range []api.Vec{v(10, 0), v(0, 0)} {
			check(p, v(0, 1), v(-5, 0), way, api.ErrReal)
			check(v(0, -1), p, v(-5, 0), way, api.ErrReal)
			check(p, p, v(-5, 0), way, api.ErrReal)
		}
	}
	for _, s := range []api.Vec{v(0, 0), v(minus, 0), v(short, 0), v(0, -short), v(0x1p-31, 0x1p-31), v(tiny, tiny)} {
		for _, way := range []api.Vec{v(10, 0), v(0, 0)} {
			check(v(0, 0), s, v(-5, 0), way, api.ErrReal)
			check(s, v(0, 0), v(-5, 0), way, api.ErrReal)
		}
	}
	// Apart, but not as floats far away are.
	check(v(0x1p40, 0), v(0x1p40-0x1p-30, 0), v(-5, 0), v(10, 0), api.ErrReal)
}

// isIn tells whether a polygon has a place, by P6.5's words.
func isIn(l []api.Vec, p api.Vec) bool {
	for i, from := range l {
		if cross(less(l[(i+1)%len(l)], from), less(p, from)) < 0 {
			return false
		}
	}
	return true
}

// wantPolygon goes by P12.3's words, and says which of them decided.
func wantPolygon(l []api.Vec, from, way api.Vec) (told, string) {
	if isIn(l, from) {
		return told{hit: hit(0, from, v(0, 0)), is: true}, "within"
	}
	var entered, left []api.Hit
	for i, p := range l {
		n := unit(right(less(l[(i+1)%len(l)], p)))
		g, f := dot(n, way), dot(n, less(from, p))
		switch {
		case g == 0 && f > 0:
			return told{}, "along"
		case g < 0:
			entered = append(entered, hit(div(-f, g), v(0, 0), n))
		case g > 0:
			left = append(left, hit(div(-f, g), v(0, 0), n))
		}
	}
	if len(entered) == 0 {
		return told{}, "not entered"
	}
	best := entered[0]
	for _, h := range entered[1:] {
		if h.Part > best.Part {
			best = h
		}
	}
	switch {
	case best.Part < 0:
		return told{}, "away"
	case best.Part > 1:
		return told{}, "too far"
	}
	for _, h := range left {
		if best.Part > h.Part {
			return told{}, "beside"
		}
	}
	return told{hit: hit(best.Part, more(from, best.Part, way), best.Normal), is: true}, "hit"
}

func TestP12_3Polygon(t *testing.T) {
	count := map[string]int{}
	overRays(50000, api.Polygon, func(_ *source, w api.Shape, from, way api.Vec) {
		want, why := wantPolygon(w.Points, from, way)
		isTold(t, tell(ray.Polygon(w.Points, from, way)), want, "Polygon", w, from, way)
		count[why]++
		if why == "hit" && want.hit.Part == 1 {
			count["at the end"]++
		}
	})
	enough(t, count, 3000, "within", "along", "away", "too far", "beside", "hit")
	enough(t, count, 300, "at the end")
}

func TestP12_3PolygonEdges(t *testing.T) {
	q := square()
	// So flat that all its normals are upright: a level ray enters no side.
	flat := points(0, 0, 0x1p20, 0, 0x1p19, 0x1p-1060)
	for i, c := range []struct {
		l         []api.Vec
		from, way api.Vec
		want      told
	}{
		// At a side or a corner from lies in it, and At is from as it came.
		{q, v(minus, 1), v(-1, 0), told{hit(0, v(minus, 1), v(0, 0)), true, 0}}, {q, v(minus, minus), v(1, 1), told{hit(0, v(minus, minus), v(0, 0)), true, 0}}, {q, v(2, 2), v(-1, -1), told{hit(0, v(2, 2), v(0, 0)), true, 0}}, {q, v(1, 1), v(0, 1), told{hit(0, v(1, 1), v(0, 0)), true, 0}},
		// Onto each side.
		{q, v(-1, 1), v(2, 0), told{hit(0.5, v(0, 1), v(-1, minus)), true, 0}}, {q, v(3, 1), v(-2, 0), told{hit(0.5, v(2, 1), v(1, minus)), true, 0}}, {q, v(1, -1), v(0, 2), told{hit(0.5, v(1, 0), v(0, -1)), true, 0}}, {q, v(1, 3), v(0, -2), told{hit(0.5, v(1, 2), v(0, 1)), true, 0}},
		// Of two sides entered at once the first one, wherever the points begin.
		{q, v(-5, -5), v(10, 10), told{hit(0.5, v(0, 0), v(0, -1)), true, 0}}, {points(0, 2, 0, 0, 2, 0, 2, 2), v(-5, -5), v(10, 10), told{hit(0.5, v(0, 0), v(-1, minus)), true, 0}},
		// The last one of those that are entered.
		{q, v(-2, -1), v(8, 8), told{hit(0.25, v(0, 1), v(-1, minus)), true, 0}}, {q, v(-1, -2), v(8, 8), told{hit(0.25, v(1, 0), v(0, -1)), true, 0}},
		// Along a side, beside it by the least.
		{q, v(-5, 0), v(10, 0), told{hit(0.5, v(0, 0), v(-1, minus)), true, 0}}, {q, v(-5, 2), v(10, 0), told{hit(0.5, v(0, 2), v(-1, minus)), true, 0}}, {q, v(-5, 2+0x1p-40), v(10, 0), told{}}, {q, v(-5, -0x1p-40), v(10, 0), told{}}, {q, v(2+0x1p-40, -1), v(0, 5), told{}},
		// A corner is touched: entered and left at once; missed by the least.
		{q, v(-1, 1), v(2, 2), told{hit(0.5, v(0, 2), v(-1, minus)), true, 0}}, {q, v(-1, 1+0x1p-40), v(2, 2), told{}}, {q, v(1, -1), v(2, 2), told{hit(0.5, v(2, 0), v(0, -1)), true, 0}}, {q, v(-1, 1.5), v(2, 2), told{}},
		// The way's end is on it, is not as far; what lies behind is not met.
		{q, v(-5, 1), v(5, 0), told{hit(1, v(0, 1), v(-1, minus)), true, 0}}, {q, v(-5, 1), v(5-0x1p-40, 0), told{}}, {q, v(3, 1), v(10, 0), told{}}, {q, v(2+0x1p-40, 1), v(10, 0), told{}},
		// What is left ahead of 0 is left.
		{q, v(-1, 4), v(8, 8), told{}}, {q, v(4, 5), v(-1, 1), told{}},
		{flat, v(-1, 0), v(10, 0), told{}}, {flat, v(-1, 0), v(0x1p21, 0), told{}},
		// A minus nought is from 0 to 1, and stays.
		{flat, v(-1, minus), v(1, -1), told{hit(minus, v(-1, 0), v(0, 1)), true, 0}}, {flat, v(-1, 0), v(1, -1), told{hit(0, v(-1, 0), v(0, 1)), true, 0}},
		// Sides that are entered or left infinitely far away.
		{q, v(-5, 1), v(10, tiny), told{hit(0.5, v(0, 1), v(-1, minus)), true, 0}}, {q, v(-5, -1), v(10, tiny), told{}}, {q, v(-5, 3), v(10, tiny), told{}}, {q, v(-5, 1), v(10, -tiny), told{hit(0.5, v(0, 1), v(-1, minus)), true, 0}}, {q, v(-5, 3), v(10, -tiny), told{}},
	} {
		isTold(t, tell(ray.Polygon(c.l, c.from, c.way)), c.want, "Polygon", i)
	}
	if _, why := wantPolygon(flat, v(-1, 0), v(10, 0)); why != "not entered" {
		t.Errorf("a flat polygon is no longer what it is here for: %s", why)
	}
}

// A polygon may have more points than a shape may.
func TestP12_3ManyPoints(t *testing.T) {
	s := source(9)
	for n := 3; n <= 64; n++ {
		w := api.Shape{Kind: api.Polygon, Points: regular(n, 8)}
		hits := 0
		for range 50 {
			from, way := s.ray(w)
			want, _ := wantPolygon(w.Points, from, way)
			isTold(t, tell(ray.Polygon(w.Points, from, way)), want, "Polygon", n, from, way)
			if want.is {
				hits++
			}
		}
		if hits == 0 {
			t.Errorf("no ray met %d points", n)
		}
	}
}

func TestP12_3Refuses(t *testing.T) {
	check := func(l []api.Vec, from, way api.Vec, want api.Errno) {
		t.Helper()
		isTold(t, tell(ray.Polygon(l, from, way)), told{e: want}, "Polygon", l, from, way)
	}
	wrongRays(func(from, way api.Vec, want api.Errno) {
		check(square(), from, way, want)
		// What stands ahead is told ahead.
		check(points(0, 0, 1, 0), from, way, api.ErrPoly)
		check(regular(65, 1), from, way, api.ErrMany)
	})
	count := map[api.Errno]int{}
	for _, l := range wrongPolygons() {
		want := poly.Check(l)
		count[want]++
		for _, way := range []api.Vec{v(10, 0), v(0, 0)} {
			check(l, v(-5, 0), way, want)
			check(l, v(none, 0), way, want)
		}
	}
	enough(t, count, 2, api.ErrMany, api.ErrReal, api.ErrPoly)
}

// capsuleHas tells whether a capsule has a place, by P7.4's words.
func capsuleHas(w api.Shape, p api.Vec) bool {
	a, d := w.Points[0], less(w.Points[1], w.Points[0])
	t := div(dot(less(p, a), d), dot(d, d))
	switch {
	case t <= 0:
		t = 0
	case t > 1:
		t = 1
	}
	x := less(p, more(a, t, d))
	return dot(x, x) <= mul(w.Radius, w.Radius)
}

// wantCapsule goes by P12.4's words, and says which of the four it was (0: from lies in it; -1: none), whether a later one has as small a Part, and whether one was refused.
func wantCapsule(w api.Shape, from, way api.Vec) (want told, who int, tie, refused bool) {
	if capsuleHas(w, from) {
		return told{hit: hit(0, from, v(0, 0)), is: true}, 0, false, false
	}
	a, b, r := w.Points[0], w.Points[1], w.Radius
	x := left(unit(less(b, a)))
	o := v(mul(x.X, r), mul(x.Y, r))
	var four [4]told
	four[0], _ = wantCircle(a, r, from, way)
	four[1], _ = wantCircle(b, r, from, way)
	four[2], _ = wantSegment(sum(a, o), sum(b, o), from, way)
	four[3], _ = wantSegment(less(a, o), less(b, o), from, way)
	who = -1
	for i, f := range four {
		refused = refused || f.e != api.OK
		switch {
		case !f.is:
		case who < 0 || f.hit.Part < want.hit.Part:
			want, who, tie = f, i+1, false
		case f.hit.Part == want.hit.Part:
			tie = true
		}
	}
	return want, who, tie, refused
}

func TestP12_4Capsule(t *testing.T) {
	count := map[string]int{}
	overRays(60000, api.Capsule, func(_ *source, w api.Shape, from, way api.Vec) {
		want, who, tie, refused := wantCapsule(w, from, way)
		isTold(t, tell(ray.Shape(w, from, way)), want, "Shape", w, from, way)
		count[[]string{"nothing", "within", "first end", "second end", "left side", "right side"}[who+1]]++
		if tie {
			count["tie"]++
		}
		if refused {
			count["refused"]++
		}
		if who > 0 && want.hit.Normal == v(0, 0) {
			count["without a normal"]++
		}
	})
	enough(t, count, 3000, "nothing", "within", "first end", "second end", "left side", "right side")
	enough(t, count, 100, "tie", "refused", "without a normal")
}

// From so far away that both sides of a thin capsule are met at once, as it rounds: the left one is asked first.
func TestP12_4BothSides(t *testing.T) {
	s := source(15)
	count := map[int]int{}
	for range 20000 {
		w := pill(math.Ldexp(1+s.part(), -29), s.plain(), s.plain(), s.plain(), s.plain())
		if shape.Check(w) != api.OK {
			continue
		}
		from := scaledVec(v(s.part()-0.5, s.part()-0.5), 0x1p40)
		way := scaledVec(less(more(w.Points[0], s.part(), less(w.Points[1], w.Points[0])), from), 1+s.part())
		if !isRay(from, way) {
			continue
		}
		want, who, tie, _ := wantCapsule(w, from, way)
		isTold(t, tell(ray.Shape(w, from, way)), want, "Shape", w, from, way)
		if tie {
			count[who]++
		}
	}
	enough(t, count, 1000, 3)
}

func TestP12_4CapsuleEdges(t *testing.T) {
	const far = api.MaxReal
	up, down := pill(0.5, 0, -1, 0, 1), pill(0.5, 0, 1, 0, -1)
	corner := pill(1, far-8, far-8, far, far)
	for i, c := range []struct {
		w         api.Shape
		from, way api.Vec
		want      told
	}{
		// Its sides, its ends, along it, past it.
		{up, v(-4.5, 0.5), v(8, 0), told{hit(0.5, v(-0.5, 0.5), v(-1, 0)), true, 0}}, {up, v(4.5, 0.5), v(-8, 0), told{hit(0.5, v(0.5, 0.5), v(1, minus)), true, 0}}, {up, v(0, 5.5), v(0, -8), told{hit(0.5, v(0, 1.5), v(0, 1)), true, 0}}, {up, v(0, -5.5), v(0, 8), told{hit(0.5, v(0, -1.5), v(0, -1)), true, 0}},
		{up, v(-5, 1.5), v(10, 0), told{hit(0.5, v(0, 1.5), v(0, 1)), true, 0}}, {up, v(-5, 1.5+0x1p-40), v(10, 0), told{}}, {up, v(-5, 2), v(10, 0), told{}}, {up, v(-0.5-0x1p-40, -5), v(0, 10), told{}}, {up, v(-5, 0), v(4.5, 0), told{hit(1, v(-0.5, 0), v(-1, 0)), true, 0}}, {up, v(-5, 0), v(4.25, 0), told{}}, {up, v(-5, 0), v(-9, 0), told{}},
		// Where side and end meet the end is asked first, though the side's normal has another nought.
		{down, v(-4.5, 1), v(8, 0), told{hit(0.5, v(-0.5, 1), v(-1, 0)), true, 0}}, {down, v(-4.5, -1), v(8, 0), told{hit(0.5, v(-0.5, -1), v(-1, 0)), true, 0}}, {down, v(-4.5, 0), v(8, 0), told{hit(0.5, v(-0.5, 0), v(-1, minus)), true, 0}},
		// Along a side the end alone is met.
		{up, v(-0.5, -5), v(0, 8), told{hit(0.5, v(-0.5, -1), v(-1, 0)), true, 0}},
		// Within, at the border too: At is from as it came.
		{up, v(minus, 1.25), v(10, 0), told{hit(0, v(minus, 1.25), v(0, 0)), true, 0}}, {up, v(0, 1.5), v(0, 9), told{hit(0, v(0, 1.5), v(0, 0)), true, 0}}, {up, v(-0.5, minus), v(-9, 0), told{hit(0, v(-0.5, minus), v(0, 0)), true, 0}},
		// An end's circle has from though the capsule does not, as it rounds: it is met at once.
		{pill(0x1p-30, 1, 0, -0x1p-60, 0), v(-0x1p-30-0x1p-60, minus), v(-9, 0), told{hit(0, v(-0x1p-30-0x1p-60, minus), v(0, 0)), true, 0}},
		// Both its sides reach beyond MaxReal, and count as none; its ends do not.
		{corner, v(far-8, far), v(8, -8), told{}}, {corner, v(far, far-8), v(-8, 8), told{}}, {corner, v(far-8, far-16), v(0, 14), told{hit(0.5, v(far-8, far-9), v(0, -1)), true, 0}}, {pill(1, far-8, 0, far, 0), v(far-4, 5), v(0, -8), told{hit(0.5, v(far-4, 1), v(minus, 1)), true, 0}},
		// One of them does.
		{pill(1, far, -1, far, 1), v(far-9, 0), v(9, 0), told{hit(8.0/9, v(far-1, 0), v(-1, 0)), true, 0}}, {pill(1, far, 1, far, -1), v(far-9, 0), v(9, 0), told{hit(8.0/9, v(far-1, 0), v(-1, minus)), true, 0}},
	} {
		isTold(t, tell(ray.Shape(c.w, c.from, c.way)), c.want, "Shape", i)
	}
}

// wantShape is what is asked of a shape and a ray that may be.
func wantShape(w api.Shape, from, way api.Vec) told {
	var want told
	switch w.Kind {
	case api.Circle:
		want, _ = wantCircle(w.Points[0], w.Radius, from, way)
	case api.Capsule:
		want, _, _, _ = wantCapsule(w, from, way)
	case api.Polygon:
		want, _ = wantPolygon(w.Points, from, way)
	}
	return want
}

func TestP12_4Shape(t *testing.T) {
	type case4 struct {
		kind uint8
		is   bool
	}
	count := map[case4]int{}
	for _, kind := range allKinds() {
		overRays(15000, kind, func(_ *source, w api.Shape, from, way api.Vec) {
			want := wantShape(w, from, way)
			isTold(t, tell(ray.Shape(w, from, way)), want, "Shape", w, from, way)
			count[case4{kind, want.is}]++
		})
		enough(t, count, 5000, case4{kind, true}, case4{kind, false})
	}
}

func TestP12_4Refuses(t *testing.T) {
	check := func(w api.Shape, from, way api.Vec, want api.Errno) {
		t.Helper()
		isTold(t, tell(ray.Shape(w, from, way)), told{e: want}, "Shape", w, from, way)
	}
	wrongRays(func(from, way api.Vec, want api.Errno) {
		for _, w := range rightShapes() {
			check(w, from, way, want)
		}
	})
	count := map[api.Errno]int{}
	for _, w := range wrongShapes() {
		want := shape.Check(w)
		count[want]++
		check(w, v(-5, 0), v(10, 0), want)
		check(w, v(-5, 0), v(0, 0), want)
		check(w, v(none, 0), v(10, 0), want)
	}
	enough(t, count, 2, api.ErrKind, api.ErrShape, api.ErrReal, api.ErrPoly)
}

// frame is one that may be, by turns that are no whole quarters too.
func (s *source) frame() api.Frame {
	turns := []complex128{1, -1, complex(0, 1), complex(0, -1), complex(0.6, 0.8), complex(-0.8, 0.6), complex(0.28, -0.96)}
	return api.Frame{At: s.place(), Turn: turns[s.below(len(turns))]}
}

// lying is a shape by a frame, part by part as chapters 3 and 4 say.
func lying(w api.Shape, f api.Frame) api.Shape {
	re, im := real(f.Turn), imag(f.Turn)
	l := make([]api.Vec, len(w.Points))
	for i, p := range w.Points {
		l[i] = sum(f.At, v(sub(mul(re, p.X), mul(im, p.Y)), add(mul(im, p.X), mul(re, p.Y))))
	}
	return api.Shape{Kind: w.Kind, Radius: w.Radius, Points: l}
}

func TestP12_5Part(t *testing.T) {
	type case5 struct {
		kind      uint8
		lies, hit bool
	}
	count := map[case5]int{}
	s := source(21)
	for range 60000 {
		w, f := s.shape(allKinds()[s.below(3)]), s.frame()
		lies := lying(w, f)
		from, way := s.ray(w)
		if shape.Check(lies) == api.OK {
			from, way = s.ray(lies)
		}
		want := told{}
		if shape.Check(lies) == api.OK {
			want = wantShape(lies, from, way)
		}
		p := api.Part{Shape: w, Sensor: s.below(2) == 0, Density: none, Friction: -1, Layer: uint16(s.below(3))}
		isTold(t, tell(ray.Part(p, f, from, way)), want, "Part", p, f, from, way)
		count[case5{w.Kind, shape.Check(lies) == api.OK, want.is}]++
	}
	for _, kind := range allKinds() {
		enough(t, count, 2000, case5{kind, true, true}, case5{kind, true, false})
		enough(t, count, 50, case5{kind, false, false})
	}
}

func TestP12_5PartEdges(t *testing.T) {
	p := func(w api.Shape) api.Part { return api.Part{Shape: w} }
	quarter := complex(0, 1)
	wrong := []api.Frame{
		{}, {Turn: 2}, {Turn: complex(none, 0)}, {Turn: complex(1, 0x1p-10)}, {At: v(inf, 0), Turn: 1}, {At: v(0, none), Turn: 1}, {At: v(past, 0), Turn: 1},
		{At: v(api.MaxReal, api.MaxReal), Turn: quarter}, {At: v(-api.MaxReal, -api.MaxReal), Turn: -1},
	}
	for i, c := range []struct {
		w         api.Shape
		f         api.Frame
		from, way api.Vec
		want      told
	}{
		{pill(0.5, 0, -1, 0, 1), api.Frame{At: v(1, 1), Turn: quarter}, v(-4.5, 1), v(8, 0), told{hit(0.5, v(-0.5, 1), v(-1, 0)), true, 0}}, {disc(1, 2, 0), api.Frame{At: v(1, 1), Turn: quarter}, v(1, 8), v(0, -8), told{hit(0.5, v(1, 4), v(0, 1)), true, 0}},
		{convex(0, 0, 2, 0, 2, 2, 0, 2), api.Frame{At: v(1, 1), Turn: quarter}, v(-3, 2), v(4, 0), told{hit(0.5, v(-1, 2), v(-1, minus)), true, 0}}, {convex(0, 0, 2, 0, 2, 2, 0, 2), api.Frame{At: v(1, 1), Turn: quarter}, v(2, 2), v(4, 0), told{}},
		// So small that far away its points fall together: it does not lie.
		{convex(0, 0, 0x1p-28, 0, 0x1p-28, 0x1p-28), api.Frame{At: v(0x1p30, 0), Turn: 1}, v(0x1p30, 0), v(1, 0), told{}}, {pill(1, 0, 0, 0x1p-28, 0), api.Frame{At: v(0x1p30, 0), Turn: 1}, v(0x1p30, 0), v(1, 0), told{}}, {disc(1, 0, 0), api.Frame{At: v(0x1p30, 0), Turn: 1}, v(0x1p30, 0), v(1, 0), told{hit(0, v(0x1p30, 0), v(0, 0)), true, 0}},
		{disc(1, 1, 0), api.Frame{At: v(api.MaxReal, 0), Turn: 1}, v(api.MaxReal, 0), v(1, 0), told{}}, {disc(1, 1, 0), api.Frame{At: v(api.MaxReal, 0), Turn: -1}, v(api.MaxReal, 0), v(1, 0), told{hit(0, v(api.MaxReal, 0), v(0, 0)), true, 0}},
	} {
		isTold(t, tell(ray.Part(p(c.w), c.f, c.from, c.way)), c.want, "Part", i)
	}
	for _, f := range wrong {
		for _, w := range []api.Shape{pill(0.5, -1, -1, 1, 1), convex(-1, -1, 1, -1, 1, 1), disc(1, -1, -1)} {
			if _, e := shape.Put(w, f); e == api.OK {
				continue
			}
			isTold(t, tell(ray.Part(p(w), f, v(0, 0), v(1, 0))), told{}, "Part", w, f)
			// What is wrong with the ray is told though the part does not lie.
			isTold(t, tell(ray.Part(p(w), f, v(none, 0), v(0, 0))), told{e: api.ErrReal}, "Part", w, f)
			isTold(t, tell(ray.Part(p(w), f, v(0, 0), v(0, 0))), told{e: api.ErrRay}, "Part", w, f)
		}
	}
}

func TestP12_5Refuses(t *testing.T) {
	home := api.Frame{Turn: 1}
	check := func(w api.Shape, f api.Frame, from, way api.Vec, want api.Errno) {
		t.Helper()
		isTold(t, tell(ray.Part(api.Part{Shape: w}, f, from, way)), told{e: want}, "Part", w, f, from, way)
	}
	wrongRays(func(from, way api.Vec, want api.Errno) {
		for _, w := range rightShapes() {
			check(w, home, from, way, want)
			check(w, api.Frame{}, from, way, want)
		}
	})
	for _, w := range wrongShapes() {
		for _, f := range []api.Frame{home, {}, {At: v(none, 0), Turn: 1}} {
			check(w, f, v(-5, 0), v(10, 0), shape.Check(w))
			check(w, f, v(none, 0), v(0, 0), shape.Check(w))
		}
	}
}

// roomy is a list with spare room, which must stay as it is too.
func roomy(l []api.Vec) []api.Vec {
	room := make([]api.Vec, len(l)+4)
	for i := range room {
		room[i] = v(7, float64(i))
	}
	copy(room, l)
	return room[:len(l)]
}

func TestP12_6OnlyRead(t *testing.T) {
	for _, kind := range allKinds() {
		overRays(2000, kind, func(s *source, w api.Shape, from, way api.Vec) {
			w.Points = roomy(w.Points)
			kept := slices.Clone(w.Points[:cap(w.Points)])
			ray.Shape(w, from, way)
			ray.Polygon(w.Points, from, way)
			ray.Part(api.Part{Shape: w}, s.frame(), from, way)
			if !slices.EqualFunc(w.Points[:cap(w.Points)], kept, sameVec) {
				t.Fatalf("of %v something was changed", kept)
			}
		})
	}
}

func TestP12_7PartAndNormal(t *testing.T) {
	isPart := func(h api.Hit, args ...any) {
		t.Helper()
		if !(h.Part >= 0 && h.Part <= 1) {
			t.Fatalf("%v of %v is not from 0 to 1", h, args)
		}
	}
	against := func(h api.Hit, way api.Vec, args ...any) {
		t.Helper()
		if dot(h.Normal, way) > 0 || math.Abs(length(h.Normal)-1) > 0x1p-40 && h.Normal != v(0, 0) {
			t.Fatalf("%v of %v does not look against the way", h, args)
		}
	}
	count := map[uint8]int{}
	for _, kind := range allKinds() {
		overRays(20000, kind, func(_ *source, w api.Shape, from, way api.Vec) {
			h, is, _ := ray.Shape(w, from, way)
			if is {
				count[kind]++
				isPart(h, w, from, way)
			}
			switch kind {
			case api.Polygon:
				against(h, way, w, from, way)
			case api.Capsule:
				h, _, _ = ray.Segment(w.Points[0], w.Points[1], from, way)
				isPart(h, w, from, way)
				against(h, way, w, from, way)
			}
		})
	}
	enough(t, count, 5000, allKinds()...)
}

func TestP12_7BeginsIn(t *testing.T) {
	count := map[uint8]int{}
	for _, kind := range allKinds() {
		overRays(20000, kind, func(_ *source, w api.Shape, from, way api.Vec) {
			if has, _ := shape.Has(w, from); has {
				count[kind]++
				isTold(t, tell(ray.Shape(w, from, way)), told{hit: hit(0, from, v(0, 0)), is: true}, "Shape", w, from, way)
			}
		})
	}
	enough(t, count, 3000, allKinds()...)
}

// isTame tells whether floats are nought, or from 2^-20 to 2^30 without their signs.
func isTame(l ...float64) bool {
	for _, f := range l {
		if a := math.Abs(f); a != 0 && (a < 0x1p-20 || a > 0x1p30) {
			return false
		}
	}
	return true
}

// isTameRay tells whether P12.7 speaks of a shape and a ray.
func isTameRay(w api.Shape, from, way api.Vec) bool {
	if !isTame(from.X, from.Y, way.X, way.Y, w.Radius) || length(way) < 0x1p-20 {
		return false
	}
	for i, p := range w.Points {
		next := w.Points[(i+1)%len(w.Points)]
		if !isTame(p.X, p.Y) || len(w.Points) > 1 && length(less(next, p)) < 0x1p-20 {
			return false
		}
	}
	return true
}

func TestP12_7TwiceAsLong(t *testing.T) {
	count := map[uint8]int{}
	for _, kind := range allKinds() {
		overRays(60000, kind, func(_ *source, w api.Shape, from, way api.Vec) {
			h, is, _ := ray.Shape(w, from, way)
			twice := scaledVec(way, 2)
			if !is || !isTameRay(w, from, way) || !isTameRay(w, from, twice) {
				return
			}
			count[kind]++
			isTold(t, tell(ray.Shape(w, from, twice)), told{hit: hit(h.Part/2, h.At, h.Normal), is: true}, "Shape, twice as long,", w, from, way)
			if kind == api.Capsule {
				if h, is, _ := ray.Segment(w.Points[0], w.Points[1], from, way); is {
					isTold(t, tell(ray.Segment(w.Points[0], w.Points[1], from, twice)), told{hit: hit(h.Part/2, h.At, h.Normal), is: true}, "Segment, twice as long,", w, from, way)
				}
			}
		})
	}
	enough(t, count, 10000, allKinds()...)
}

func TestP12_7PowersOfTwo(t *testing.T) {
	type case7 struct {
		kind uint8
		is   bool
	}
	count, powers := map[case7]int{}, map[int]int{}
	for _, kind := range allKinds() {
		overRays(50000, kind, func(s *source, w api.Shape, from, way api.Vec) {
			if !isTameRay(w, from, way) {
				return
			}
			k := s.below(17) - 8
			by := math.Ldexp(1, k)
			want := tell(ray.Shape(w, from, way))
			count[case7{kind, want.is}]++
			powers[k]++
			want.hit.At = scaledVec(want.hit.At, by)
			isTold(t, tell(ray.Shape(scaled(w, by), scaledVec(from, by), scaledVec(way, by))), want, "Shape", w, from, way, by)
			if kind != api.Capsule {
				return
			}
			a, b := w.Points[0], w.Points[1]
			want = tell(ray.Segment(a, b, from, way))
			want.hit.At = scaledVec(want.hit.At, by)
			isTold(t, tell(ray.Segment(scaledVec(a, by), scaledVec(b, by), scaledVec(from, by), scaledVec(way, by))), want, "Segment", a, b, from, way, by)
		})
		enough(t, count, 10000, case7{kind, true}, case7{kind, false})
	}
	for k := -8; k <= 8; k++ {
		enough(t, powers, 2000, k)
	}
}

func TestP12_7WholeNumbers(t *testing.T) {
	count := map[uint8]int{}
	s := source(33)
	for range 300000 {
		most := []int{3, 10, 100, 1000}[s.below(4)]
		from, to := v(s.whole(most), s.whole(most)), v(s.whole(most), s.whole(most))
		w := api.Shape{Kind: api.Circle, Radius: float64(1 + s.below(most)), Points: []api.Vec{v(s.whole(most), s.whole(most))}}
		deep := func(p api.Vec) bool {
			x := less(p, w.Points[0])
			return dot(x, x) < w.Radius*w.Radius
		}
		if s.below(2) == 0 {
			l := make([]api.Vec, 3+s.below(8))
			for i := range l {
				l[i] = v(s.whole(most), s.whole(most))
			}
			l, e := poly.Hull(l)
			if e != api.OK || len(l) > api.MaxPoints {
				continue
			}
			w = api.Shape{Kind: api.Polygon, Points: l}
			deep = func(p api.Vec) bool {
				for i, q := range l {
					if cross(less(l[(i+1)%len(l)], q), less(p, q)) <= 0 {
						return false
					}
				}
				return true
			}
		}
		if has, _ := shape.Has(w, from); has || !deep(to) {
			continue
		}
		count[w.Kind]++
		h, is, e := ray.Shape(w, from, less(to, from))
		if !is || e != api.OK || !(h.Part < 1) {
			t.Fatalf("Shape(%v) from %v to %v is %v, %v, %d", w, from, to, h, is, e)
		}
	}
	enough(t, count, 5000, api.Circle, api.Polygon)
}

func TestExamples(t *testing.T) {
	from, way := v(-5, 0), v(10, 0)
	circle := func(centre api.Vec, radius float64, way api.Vec, want told) {
		t.Helper()
		isTold(t, tell(ray.Circle(centre, radius, from, way)), want, "Circle", centre, radius, way)
	}
	circle(v(0, 0), 1, way, told{hit(0.4, v(-1, 0), v(-1, 0)), true, 0})
	circle(v(0, 0), 1, v(-10, 0), told{})
	circle(v(0, 0), 1, v(3, 0), told{})
	circle(v(0, 0), 1, v(0, 0), told{e: api.ErrRay})
	circle(v(-5, 0.5), 1, way, told{hit(0, v(-5, 0), v(0, 0)), true, 0})
	circle(v(0, 2), 1, way, told{})
	circle(v(0, 1), 1, way, told{hit(0.5, v(0, 0), v(0, -1)), true, 0})
	circle(v(0, 0), 0, way, told{e: api.ErrReal})
	segment := func(a, b api.Vec, want told) {
		t.Helper()
		isTold(t, tell(ray.Segment(a, b, from, way)), want, "Segment", a, b)
	}
	segment(v(0, -1), v(0, 1), told{hit(0.5, v(0, 0), v(-1, 0)), true, 0})
	segment(v(0, 1), v(0, -1), told{hit(0.5, v(0, 0), v(-1, minus)), true, 0})
	segment(v(0, 0), v(1, 0), told{})
	segment(v(0, 1), v(0, 2), told{})
	segment(v(0, 0), v(0, 0), told{e: api.ErrReal})
	polygon := func(l []api.Vec, from api.Vec, want told) {
		t.Helper()
		isTold(t, tell(ray.Polygon(l, from, way)), want, "Polygon", l, from)
	}
	polygon(square(), v(-5, 1), told{hit(0.5, v(0, 1), v(-1, minus)), true, 0})
	polygon(square(), v(1, 1), told{hit(0, v(1, 1), v(0, 0)), true, 0})
	polygon(square(), v(-5, 3), told{})
	polygon(square(), v(-5, 0), told{hit(0.5, v(0, 0), v(-1, minus)), true, 0})
	polygon(square()[:2], v(-5, 1), told{e: api.ErrPoly})
	capsule := func(from api.Vec, want told) {
		t.Helper()
		isTold(t, tell(ray.Shape(pill(0.5, 0, -1, 0, 1), from, way)), want, "Shape", from)
	}
	capsule(v(-5, 0.5), told{hit(0.45, v(-0.5, 0.5), v(-1, 0)), true, 0})
	capsule(v(-5, 2), told{})
	capsule(v(0, 1.25), told{hit(0, v(0, 1.25), v(0, 0)), true, 0})
}
