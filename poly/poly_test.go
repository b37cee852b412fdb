package poly_test

import (
	"math"
	"slices"
	"testing"

	"tumble/api"
	"tumble/poly"
)

var (
	minus = math.Copysign(0, -1)
	none  = math.NaN()
	inf   = math.Inf(1)
	past  = math.Nextafter(api.MaxReal, inf)
)

func v(x, y float64) api.Vec { return api.Vec{X: x, Y: y} }

// points are told by their parts, one after the other.
func points(l ...float64) []api.Vec {
	var p []api.Vec
	for i := 0; i < len(l); i += 2 {
		p = append(p, v(l[i], l[i+1]))
	}
	return p
}

func square() []api.Vec { return points(0, 0, 2, 0, 2, 2, 0, 2) }

func reversed(l []api.Vec) []api.Vec {
	l = slices.Clone(l)
	slices.Reverse(l)
	return l
}

// turned are the points, begun at another one of them.
func turned(l []api.Vec, k int) []api.Vec { return slices.Concat(l[k:], l[:k]) }

func moved(l []api.Vec, by api.Vec) []api.Vec {
	l = slices.Clone(l)
	for i := range l {
		l[i] = v(l[i].X+by.X, l[i].Y+by.Y)
	}
	return l
}

func scaled(l []api.Vec, by float64) []api.Vec {
	l = slices.Clone(l)
	for i := range l {
		l[i] = v(l[i].X*by, l[i].Y*by)
	}
	return l
}

// The oracle rounds each operation by itself: a call that is not inlined can't be worked out as one with the next.
//
//go:noinline
func add(a, b float64) float64 { return a + b }

//go:noinline
func sub(a, b float64) float64 { return a - b }

//go:noinline
func mul(a, b float64) float64 { return a * b }

//go:noinline
func div(a, b float64) float64 { return a / b }

func less(a, b api.Vec) api.Vec { return v(sub(a.X, b.X), sub(a.Y, b.Y)) }

func cross(a, b api.Vec) float64 { return sub(mul(a.X, b.Y), mul(a.Y, b.X)) }

func dot(a, b api.Vec) float64 { return add(mul(a.X, b.X), mul(a.Y, b.Y)) }

func length(a api.Vec) float64 { return math.Sqrt(dot(a, a)) }

// same is told by bits, apart from what the package does.
func same(a, b float64) bool {
	if math.IsNaN(a) || math.IsNaN(b) {
		return math.IsNaN(a) && math.IsNaN(b)
	}
	return math.Float64bits(a) == math.Float64bits(b)
}

func sameVec(a, b api.Vec) bool { return same(a.X, b.X) && same(a.Y, b.Y) }

func sameList(a, b []api.Vec) bool { return slices.EqualFunc(a, b, sameVec) }

func isErr(t *testing.T, got, want api.Errno, call string, args ...any) {
	t.Helper()
	if got != want {
		t.Fatalf("%s%v tells %d, not %d", call, args, got, want)
	}
}

func isList(t *testing.T, got, want []api.Vec, call string, args ...any) {
	t.Helper()
	if !sameList(got, want) {
		t.Fatalf("%s%v is %v, not %v", call, args, got, want)
	}
}

func isVec(t *testing.T, got, want api.Vec, call string, args ...any) {
	t.Helper()
	if !sameVec(got, want) {
		t.Fatalf("%s%v is %v, not %v", call, args, got, want)
	}
}

func isFloat(t *testing.T, got, want float64, call string, args ...any) {
	t.Helper()
	if !same(got, want) {
		t.Fatalf("%s%v is %v, not %v", call, args, got, want)
	}
}

// source makes floats from a rule of whole numbers: the same ones in each run.
type source uint64

func (s *source) next() uint64 {
	*s = *s*6364136223846793005 + 1442695040888963407
	return uint64(*s >> 31)
}

func (s *source) below(n int) int { return int(s.next() % uint64(n)) }

// plain has all its bits in use, and is from some 2^-20 to 2^20.
func (s *source) plain() float64 {
	whole := int64(s.next()<<20^s.next())&(1<<53-1) - 1<<52
	return math.Ldexp(float64(whole), s.below(40)-72)
}

// part is from 0 to 1.
func (s *source) part() float64 { return float64(s.next()&(1<<30-1)) / (1 << 30) }

// few are from few floats, so that points are often equal or on one line, noughts among them.
func (s *source) few() float64 { return []float64{-2, -1, minus, 0, 1, 2}[s.below(6)] }

func (s *source) whole() float64 { return float64(s.below(1<<25+1) - 1<<24) }

func (s *source) place(part func() float64) api.Vec { return v(part(), part()) }

func (s *source) places(n int, part func() float64) []api.Vec {
	l := make([]api.Vec, n)
	for i := range l {
		l[i] = s.place(part)
	}
	return l
}

// round are points of a circle, rising by their angles: most often a polygon.
func (s *source) round(n int) []api.Vec {
	middle, far := s.place(s.plain), math.Ldexp(1+s.part(), s.below(30)-15)
	at := make([]float64, n)
	for i := range at {
		at[i] = s.part() * 2 * math.Pi
	}
	slices.Sort(at)
	l := make([]api.Vec, n)
	for i, a := range at {
		l[i] = v(middle.X+far*math.Cos(a), middle.Y+far*math.Sin(a))
	}
	return l
}

// flat are points so near to one line that rounding decides what they are.
func (s *source) flat(n int) []api.Vec {
	way := v(s.part(), s.part())
	l := make([]api.Vec, n)
	for i := range l {
		far := 4 * s.part()
		l[i] = v(way.X*far, way.Y*far)
		if s.below(2) == 0 {
			l[i].X = math.Nextafter(l[i].X, inf)
		}
	}
	return l
}

// overLists hands over points of all kinds, such as are polygons and such as are none.
func overLists(n int, f func(s *source, l []api.Vec)) {
	s := source(6)
	for range n {
		f(&s, s.places(s.below(7), s.few))
		f(&s, s.places(3+s.below(3), s.plain))
		f(&s, s.flat(3+s.below(2)))
		f(&s, s.round(3+s.below(8)))
		l := s.round(3 + s.below(6))
		l[s.below(len(l))] = s.place(s.plain)
		f(&s, l)
	}
}

// overPolygons hands over those that are polygons.
func overPolygons(n int, f func(s *source, l []api.Vec)) {
	overLists(n, func(s *source, l []api.Vec) {
		if wantCheck(l) == api.OK {
			f(s, l)
		}
	})
}

func within(p api.Vec) bool {
	return math.Abs(p.X) <= api.MaxReal && math.Abs(p.Y) <= api.MaxReal
}

func wantPlaces(l []api.Vec) api.Errno {
	if len(l) > 64 {
		return api.ErrMany
	}
	for _, p := range l {
		if !within(p) {
			return api.ErrReal
		}
	}
	return api.OK
}

func next(l []api.Vec, i int) int {
	if i == len(l)-1 {
		return 0
	}
	return i + 1
}

// way is that of a side.
func way(l []api.Vec, i int) api.Vec { return less(l[next(l, i)], l[i]) }

// wantCheck goes by P6.1's words.
func wantCheck(l []api.Vec) api.Errno {
	if e := wantPlaces(l); e != api.OK {
		return e
	}
	if len(l) < 3 {
		return api.ErrPoly
	}
	for i := range l {
		if length(way(l, i)) < api.MinReal {
			return api.ErrPoly
		}
		for k, p := range l {
			if k != i && k != next(l, i) && !(cross(way(l, i), less(p, l[i])) > 0) {
				return api.ErrPoly
			}
		}
	}
	return api.OK
}

// callAll hands points to all calls that answer Check's error first, and tells whether each answered this one and nothing else.
func callAll(t *testing.T, l []api.Vec, want api.Errno) {
	t.Helper()
	isErr(t, poly.Check(l), want, "Check", l)
	area, e := poly.Area(l)
	isErr(t, e, want, "Area", l)
	centre, e := poly.Centre(l)
	isErr(t, e, want, "Centre", l)
	normals, e := poly.Normals(l)
	isErr(t, e, want, "Normals", l)
	has, e := poly.Has(l, v(none, inf))
	isErr(t, e, want, "Has", l)
	far, e := poly.Far(l, v(none, inf))
	isErr(t, e, want, "Far", l)
	side, d, e := poly.Apart(l, nil)
	isErr(t, e, want, "Apart", l)
	if area != 0 || centre != v(0, 0) || normals != nil || has || far != 0 || side != 0 || d != 0 {
		t.Fatalf("beside an error of %v: %v, %v, %v, %v, %d, %d, %v", l, area, centre, normals, has, far, side, d)
	}
	side, d, e = poly.Apart(square(), l)
	isErr(t, e, want, "Apart of a square and", l)
	if side != 0 || d != 0 {
		t.Fatalf("Apart beside an error of %v: %d, %v", l, side, d)
	}
}

func TestP6_1Check(t *testing.T) {
	count := map[api.Errno]int{}
	overLists(40000, func(_ *source, l []api.Vec) {
		want := wantCheck(l)
		count[want]++
		isErr(t, poly.Check(l), want, "Check", l)
		if want != api.OK {
			callAll(t, l, want)
		}
	})
	if count[api.OK] < 20000 || count[api.ErrPoly] < 20000 {
		t.Errorf("too few of one kind: %v", count)
	}
}

// regular has its points on a circle, going round so many times.
func regular(n, times int, far float64) []api.Vec {
	l := make([]api.Vec, n)
	for i := range l {
		a := 2 * math.Pi * float64(i*times) / float64(n)
		l[i] = v(far*math.Cos(a), far*math.Sin(a))
	}
	return l
}

func TestP6_1CheckTakes(t *testing.T) {
	for i, l := range [][]api.Vec{
		square(), points(0, 0, 1, 0, 0, 1), points(minus, 0, 1, minus, 0, 1), turned(square(), 3),
		regular(64, 1, 1), regular(64, 1, 0x1p39), regular(8, 1, 0x1p-28), regular(63, 1, 1),
		points(-api.MaxReal, -api.MaxReal, api.MaxReal, -api.MaxReal, api.MaxReal, api.MaxReal, -api.MaxReal, api.MaxReal),
		points(0, 0, api.MinReal, 0, 0, api.MinReal), points(0, 0, 1, 0, 0.5, 0x1p-40), points(0, 0, 1, 0, 0.5, 0x1p-1073),
		moved(square(), v(0x1p39, -0x1p39)),
	} {
		if e := poly.Check(l); e != api.OK {
			t.Errorf("%d: Check(%v) tells %d", i, l, e)
		}
	}
}

func TestP6_1CheckRefuses(t *testing.T) {
	for i, l := range [][]api.Vec{
		nil, {}, points(1, 1), points(0, 0, 1, 0), reversed(square()), points(0, 0, 1, 1, 2, 2), points(0, 0, 0, 0, 0, 0),
		points(0, 0, 1, 0, 2, 0, 2, 2, 0, 2), points(0, 0, 2, 0, 2, 2, 0, 2, 0, 1), points(0, 0, 2, 0, 2, 0, 2, 2, 0, 2),
		points(0, 0, 2, 0, 2, 2, 0, 2, 0, 0), points(0, 0, 2, 0, 2, 2, 1, 0.5), points(0, 0, 2, 2, 2, 0, 0, 2),
		// Each turns to the left at every point, but goes round twice or three times.
		regular(5, 2, 1), regular(7, 2, 1), regular(7, 3, 1), slices.Concat(square(), square()), slices.Concat(regular(3, 1, 1), regular(3, 1, 1)),
		regular(64, 63, 1), make([]api.Vec, 64), regular(64, 1, 0x1p-28),
		points(0, 0, math.Nextafter(api.MinReal, 0), 0, 0, 1), points(0, 0, 0x1p-31, 0x1p-31, 0, 1), points(0, 0, 0, -1, 0x1p-31, 0),
		// What is left but for rounding is not.
		points(0, 0, 1, 0, 0.5, 0x1p-1074), points(0, 0, 1e-200, 0, 0, 1), moved(points(0, 0, 1, 0, 0, 0x1p-30), v(0x1p39, 0x1p39)),
	} {
		isErr(t, wantCheck(l), api.ErrPoly, "the test's own question", i)
		callAll(t, l, api.ErrPoly)
	}
}

func TestP6_1CheckReals(t *testing.T) {
	for _, wrong := range []float64{none, inf, -inf, past, -past, math.MaxFloat64} {
		for i := range 4 {
			l := square()
			l[i].X = wrong
			callAll(t, l, api.ErrReal)
			l[i] = v(2, wrong)
			callAll(t, l, api.ErrReal)
		}
		callAll(t, points(wrong, 0), api.ErrReal)
		long := make([]api.Vec, 64)
		long[63].Y = wrong
		callAll(t, long, api.ErrReal)
		long = append(long, v(0, 0))
		callAll(t, long, api.ErrMany)
	}
}

func TestP6_1CheckMany(t *testing.T) {
	for _, n := range []int{65, 66, 100, 1 << 16} {
		callAll(t, regular(n, 1, 1), api.ErrMany)
		callAll(t, make([]api.Vec, n), api.ErrMany)
	}
}

func TestP6_1BothFromTheLeft(t *testing.T) {
	many, real, flat := make([]api.Vec, 65), points(none, 0), points(0, 0)
	for _, a := range [][]api.Vec{many, real, flat} {
		for _, b := range [][]api.Vec{many, real, flat} {
			_, _, e := poly.Apart(a, b)
			isErr(t, e, wantCheck(a), "Apart", a, b)
		}
	}
}

// wantRow goes by P6.2's words.
func wantRow(l []api.Vec) []api.Vec {
	var row []api.Vec
	for _, p := range l {
		for len(row) >= 2 {
			n := len(row)
			if cross(less(row[n-1], row[n-2]), less(p, row[n-2])) > 0 {
				break
			}
			row = row[:n-1]
		}
		row = append(row, p)
	}
	return row
}

// wantOrder puts each point ahead of all that are greater, and leaves out what was there already.
func wantOrder(l []api.Vec) []api.Vec {
	var row []api.Vec
	for _, p := range l {
		at, known := 0, false
		for _, q := range row {
			known = known || q == p
			if q.X < p.X || q.X == p.X && q.Y < p.Y {
				at++
			}
		}
		if !known {
			row = slices.Insert(row, at, p)
		}
	}
	return row
}

func wantHull(l []api.Vec) ([]api.Vec, api.Errno) {
	if e := wantPlaces(l); e != api.OK {
		return nil, e
	}
	row := wantOrder(l)
	if len(row) < 3 {
		return nil, api.ErrFlat
	}
	lower, upper := wantRow(row), wantRow(reversed(row))
	hull := slices.Concat(lower[:len(lower)-1], upper[:len(upper)-1])
	if wantCheck(hull) != api.OK {
		return nil, api.ErrFlat
	}
	return hull, api.OK
}

func isHull(t *testing.T, l []api.Vec) api.Errno {
	t.Helper()
	got, e := poly.Hull(l)
	want, wantE := wantHull(l)
	isErr(t, e, wantE, "Hull", l)
	isList(t, got, want, "Hull", l)
	if e != api.OK && got != nil {
		t.Fatalf("Hull(%v) is %v beside an error", l, got)
	}
	return e
}

func TestP6_2Hull(t *testing.T) {
	count := map[api.Errno]int{}
	overLists(20000, func(s *source, l []api.Vec) { count[isHull(t, l)]++ })
	s := source(2)
	for range 4000 {
		for _, part := range []func() float64{s.few, s.plain, s.whole, s.part} {
			count[isHull(t, s.places(s.below(65), part))]++
		}
		count[isHull(t, s.flat(s.below(65)))]++
		count[isHull(t, s.round(s.below(65)))]++
	}
	if count[api.OK] < 20000 || count[api.ErrFlat] < 20000 {
		t.Errorf("too few of one kind: %v", count)
	}
}

func TestP6_2HullNoughts(t *testing.T) {
	for i, c := range []struct{ l, want []api.Vec }{
		{points(minus, 0, 0, 0, 0, minus, 2, minus, 2, 0, 1, 1), points(minus, 0, 2, minus, 1, 1)},
		{points(0, minus, 1, 1, minus, minus, 2, 0, 2, minus), points(0, minus, 2, 0, 1, 1)},
		{points(minus, 2, 0, 1, minus, minus, 1, 0), points(minus, minus, 1, 0, minus, 2)},
		{points(0, 2, minus, 1, 0, 0, 1, 0), points(0, 0, 1, 0, 0, 2)},
	} {
		got, e := poly.Hull(c.l)
		isErr(t, e, api.OK, "Hull", i)
		isList(t, got, c.want, "Hull", i)
	}
}

func TestP6_2HullEdges(t *testing.T) {
	for i, c := range []struct {
		l, want []api.Vec
		e       api.Errno
	}{
		{points(0, 0, 1, 0, 0, 1), points(0, 0, 1, 0, 0, 1), api.OK},
		{points(0, 1, 1, 0, 0, 0), points(0, 0, 1, 0, 0, 1), api.OK},
		{reversed(square()), square(), api.OK},
		{points(0, 1, 0, 0, 1, 0, 2, 0, 2, 1, 2, 2, 1, 2, 0, 2, 1, 1), square(), api.OK},
		{points(1, 1), nil, api.ErrFlat}, {points(1, 1, 2, 3), nil, api.ErrFlat}, {make([]api.Vec, 64), nil, api.ErrFlat},
		{points(0, 0, 0, 1, 0, 2, 0, 3), nil, api.ErrFlat}, {points(3, 0, 1, 0, 2, 0), nil, api.ErrFlat},
		{points(0, 0, 0x1p-31, 0, 0, 1), nil, api.ErrFlat}, {points(0, 0, api.MinReal, 0, 0, 1), points(0, 0, api.MinReal, 0, 0, 1), api.OK},
		// A side between two corners that are too near is not taken, however great the rest.
		{points(0, 0, 2, 0, 2, 2, 0, 2, -0x1p-32, 1, -0x1p-32, 1+0x1p-32), nil, api.ErrFlat},
		{slices.Concat(square(), points(none, 1)), nil, api.ErrReal}, {points(1, past), nil, api.ErrReal}, {points(-past, 1), nil, api.ErrReal},
		{slices.Concat(make([]api.Vec, 64), points(none, 1)), nil, api.ErrMany},
		{points(-api.MaxReal, 0, api.MaxReal, -api.MaxReal, 0, api.MaxReal), points(-api.MaxReal, 0, api.MaxReal, -api.MaxReal, 0, api.MaxReal), api.OK},
	} {
		got, e := poly.Hull(c.l)
		isErr(t, e, c.e, "Hull", i)
		isList(t, got, c.want, "Hull", i)
	}
	full := regular(64, 1, 1)
	got, e := poly.Hull(full)
	isErr(t, e, api.OK, "Hull of 64 outermost points")
	if len(got) != 64 {
		t.Errorf("Hull leaves %d of 64 outermost points", len(got))
	}
}

// wantSums are s, x and y by P6.3's words: the first one, to which the others are added.
func wantSums(l []api.Vec) (s, x, y float64) {
	for i := 1; i <= len(l)-2; i++ {
		a, b := less(l[i], l[0]), less(l[i+1], l[0])
		c := cross(a, b)
		p, q := mul(add(a.X, b.X), c), mul(add(a.Y, b.Y), c)
		if i == 1 {
			s, x, y = c, p, q
			continue
		}
		s, x, y = add(s, c), add(x, p), add(y, q)
	}
	return s, x, y
}

func isAreaAndCentre(t *testing.T, l []api.Vec) api.Errno {
	t.Helper()
	s, x, y := wantSums(l)
	want, area, centre := api.ErrFlat, 0.0, v(0, 0)
	if s > 0 {
		want, area = api.OK, mul(s, 0.5)
		centre = v(add(l[0].X, div(x, mul(3, s))), add(l[0].Y, div(y, mul(3, s))))
	}
	gotArea, e := poly.Area(l)
	isErr(t, e, want, "Area", l)
	isFloat(t, gotArea, area, "Area", l)
	gotCentre, e := poly.Centre(l)
	isErr(t, e, want, "Centre", l)
	isVec(t, gotCentre, centre, "Centre", l)
	return e
}

func TestP6_3AreaCentre(t *testing.T) {
	count := map[api.Errno]int{}
	overPolygons(40000, func(_ *source, l []api.Vec) { count[isAreaAndCentre(t, l)]++ })
	s := source(3)
	for range 200000 {
		if l := s.flat(4); wantCheck(l) == api.OK {
			count[isAreaAndCentre(t, l)]++
		}
	}
	if count[api.OK] < 20000 || count[api.ErrFlat] < 20 {
		t.Errorf("too few of one kind: %v", count)
	}
	for _, n := range []int{3, 8, 63, 64} {
		isAreaAndCentre(t, regular(n, 1, 3))
	}
}

func TestP6_3Flat(t *testing.T) {
	// A polygon as vec.Cross rounds, of which nothing is left: it is refused by these two alone.
	l := points(0x1.027557d9d049ap-02, 0x1.71c3a08f7fe54p-02, 0x1.5b93bc5477007p-01, 0x1.f143197adfb85p-01, 0x1.66b79030b1d23p+00, 0x1.009989850524fp+01, 0x1.4e06967ee0ed4p-01, 0x1.dddff430316dfp-01)
	isErr(t, poly.Check(l), api.OK, "Check")
	area, e := poly.Area(l)
	isErr(t, e, api.ErrFlat, "Area")
	isFloat(t, area, 0, "Area")
	centre, e := poly.Centre(l)
	isErr(t, e, api.ErrFlat, "Centre")
	isVec(t, centre, v(0, 0), "Centre")
	_, e = poly.Normals(l)
	isErr(t, e, api.OK, "Normals")
}

func TestP6_3Known(t *testing.T) {
	const e = 0x1p-600
	for i, c := range []struct {
		l      []api.Vec
		area   float64
		centre api.Vec
	}{
		{points(0, 0, 3, 0, 0, 3), 4.5, v(1, 1)}, {points(3, 0, 0, 3, 0, 0), 4.5, v(1, 1)},
		{points(0, 0, 4, 0, 4, 2, 0, 2), 8, v(2, 1)}, {points(-1, 0, 0, -1, 1, 0, 0, 1), 2, v(0, 0)},
		{points(0, 0, 6, 0, 6, 3, 3, 6, 0, 6), 31.5, v(19.0/7, 19.0/7)},
		{points(-api.MaxReal, -api.MaxReal, api.MaxReal, -api.MaxReal, api.MaxReal, api.MaxReal, -api.MaxReal, api.MaxReal), 0x1p82, v(0, 0)},
		// The sum of -e * e is minus nought, and keeps its sign.
		{points(minus, 0, e, -1, -2*e, 3), e / 2, v(minus, 2.0/3)},
		{points(0, 0, e, -1, -2*e, 3), e / 2, v(0, 2.0/3)},
	} {
		area, e := poly.Area(c.l)
		isErr(t, e, api.OK, "Area", i)
		isFloat(t, area, c.area, "Area", i)
		centre, e := poly.Centre(c.l)
		isErr(t, e, api.OK, "Centre", i)
		isVec(t, centre, c.centre, "Centre", i)
	}
}

func wantNormal(l []api.Vec, i int) api.Vec {
	w := way(l, i)
	n := length(w)
	return v(div(w.Y, n), div(-w.X, n))
}

func wantNormals(l []api.Vec) []api.Vec {
	n := make([]api.Vec, len(l))
	for i := range l {
		n[i] = wantNormal(l, i)
	}
	return n
}

func TestP6_4Normals(t *testing.T) {
	check := func(l []api.Vec) {
		t.Helper()
		got, e := poly.Normals(l)
		isErr(t, e, api.OK, "Normals", l)
		isList(t, got, wantNormals(l), "Normals", l)
	}
	overPolygons(40000, func(_ *source, l []api.Vec) { check(l) })
	check(regular(64, 1, 1))
	check(points(0, 0, api.MinReal, 0, 0, api.MinReal))
	check(points(-api.MaxReal, 0, api.MaxReal, 0, 0, api.MaxReal))
	got, e := poly.Normals(points(0, 0, 4, -3, 4, 5))
	isErr(t, e, api.OK, "Normals")
	n := length(v(4, 5))
	isList(t, got, []api.Vec{v(-0.6, -0.8), v(1, minus), v(-5/n, 4/n)}, "Normals")
}

func TestP6_5Has(t *testing.T) {
	count := map[bool]int{}
	check := func(l []api.Vec, p api.Vec) {
		t.Helper()
		want := true
		for i := range l {
			want = want && !(cross(way(l, i), less(p, l[i])) < 0)
		}
		count[want]++
		got, e := poly.Has(l, p)
		isErr(t, e, api.OK, "Has", l, p)
		if got != want {
			t.Fatalf("Has(%v, %v) is %v", l, p, got)
		}
	}
	overPolygons(20000, func(s *source, l []api.Vec) {
		a, b := l[s.below(len(l))], l[s.below(len(l))]
		check(l, v((a.X+b.X)/2, (a.Y+b.Y)/2))
		far := s.part()
		check(l, v(a.X+far*(b.X-a.X), a.Y+far*(b.Y-a.Y)))
		check(l, v(a.X+1.5*(b.X-a.X), a.Y+1.5*(b.Y-a.Y)))
		check(l, v(math.Nextafter(a.X, inf), math.Nextafter(a.Y, -inf)))
		check(l, s.place(s.few))
		check(l, s.place(s.plain))
	})
	if count[true] < 20000 || count[false] < 20000 {
		t.Errorf("too few of one kind: %v", count)
	}
}

func TestP6_5HasEdges(t *testing.T) {
	out := math.Nextafter(2, 3)
	for _, c := range []struct {
		p    api.Vec
		want bool
		e    api.Errno
	}{
		{v(1, 1), true, api.OK}, {v(0, 0), true, api.OK}, {v(2, 2), true, api.OK}, {v(minus, minus), true, api.OK}, {v(1, 0), true, api.OK}, {v(0, 1), true, api.OK}, {v(2, 0x1p-1074), true, api.OK},
		{v(out, 1), false, api.OK}, {v(1, out), false, api.OK}, {v(-0x1p-1000, 1), false, api.OK}, {v(1, -0x1p-1000), false, api.OK}, {v(3, 0), false, api.OK}, {v(-1, 2), false, api.OK},
		{v(api.MaxReal, -api.MaxReal), false, api.OK}, {v(-api.MaxReal, 1), false, api.OK},
		{v(past, 1), false, api.ErrReal}, {v(1, -past), false, api.ErrReal}, {v(none, 1), false, api.ErrReal}, {v(1, none), false, api.ErrReal}, {v(inf, 1), false, api.ErrReal}, {v(1, -inf), false, api.ErrReal},
	} {
		got, e := poly.Has(square(), c.p)
		isErr(t, e, c.e, "Has", c.p)
		if got != c.want {
			t.Errorf("Has(%v) is %v", c.p, got)
		}
	}
}

func TestP6_5Far(t *testing.T) {
	check := func(l []api.Vec, w api.Vec) {
		t.Helper()
		want := 0
		for i, p := range l {
			if dot(p, w) > dot(l[want], w) {
				want = i
			}
		}
		got, e := poly.Far(l, w)
		isErr(t, e, api.OK, "Far", l, w)
		if got != want {
			t.Fatalf("Far(%v, %v) is %d, not %d", l, w, got, want)
		}
	}
	overPolygons(20000, func(s *source, l []api.Vec) {
		check(l, s.place(s.few))
		check(l, s.place(s.plain))
		check(l, wantNormal(l, s.below(len(l))))
		w := way(l, s.below(len(l)))
		check(l, v(-w.Y, w.X))
	})
}

func TestP6_5FarEdges(t *testing.T) {
	for _, c := range []struct {
		way  api.Vec
		want int
		e    api.Errno
	}{
		{v(0, 0), 0, api.OK}, {v(minus, minus), 0, api.OK}, {v(1, 0), 1, api.OK}, {v(0, 1), 2, api.OK}, {v(-1, 0), 0, api.OK}, {v(0, -1), 0, api.OK}, {v(-1, 1), 3, api.OK}, {v(1, -1), 1, api.OK}, {v(-1, -1), 0, api.OK},
		{v(api.MaxReal, api.MaxReal), 2, api.OK}, {v(0x1p-1074, 0), 1, api.OK}, {v(-api.MaxReal, 0x1p-1074), 3, api.OK},
		{v(past, 0), 0, api.ErrReal}, {v(0, past), 0, api.ErrReal}, {v(none, 1), 0, api.ErrReal}, {v(1, none), 0, api.ErrReal}, {v(-inf, 1), 0, api.ErrReal}, {v(1, inf), 0, api.ErrReal},
	} {
		got, e := poly.Far(square(), c.way)
		isErr(t, e, c.e, "Far", c.way)
		if got != c.want {
			t.Errorf("Far(%v) is %d, not %d", c.way, got, c.want)
		}
	}
}

// wantApart goes by P6.6's words.
func wantApart(a, b []api.Vec) (int, float64) {
	side, far := 0, 0.0
	for i, n := range wantNormals(a) {
		least := dot(n, less(b[0], a[i]))
		for _, p := range b {
			if d := dot(n, less(p, a[i])); d < least {
				least = d
			}
		}
		if i == 0 || least > far {
			side, far = i, least
		}
	}
	return side, far
}

func isApart(t *testing.T, a, b []api.Vec) {
	t.Helper()
	side, far, e := poly.Apart(a, b)
	wantSide, wantFar := wantApart(a, b)
	isErr(t, e, api.OK, "Apart", a, b)
	if side != wantSide || !same(far, wantFar) {
		t.Fatalf("Apart(%v, %v) is %d, %v, not %d, %v", a, b, side, far, wantSide, wantFar)
	}
}

func TestP6_6Apart(t *testing.T) {
	last := square()
	overPolygons(20000, func(s *source, l []api.Vec) {
		isApart(t, l, last)
		isApart(t, last, l)
		isApart(t, l, moved(square(), s.place(s.few)))
		// Side to side, so that noughts come up.
		p, q := l[s.below(len(l))], last[s.below(len(last))]
		if near := moved(last, less(p, q)); wantCheck(near) == api.OK {
			isApart(t, l, near)
			isApart(t, near, l)
		}
		last = l
	})
	isApart(t, regular(64, 1, 1), moved(regular(63, 1, 2), v(2.5, 1)))
}

func TestP6_6ApartKnown(t *testing.T) {
	q := square()
	for i, c := range []struct {
		a, b []api.Vec
		side int
		far  float64
	}{
		{q, moved(q, v(0, -5)), 0, 3}, {q, moved(q, v(5, 0)), 1, 3}, {q, moved(q, v(0, 5)), 2, 3}, {q, moved(q, v(-5, 0)), 3, 3},
		{q, moved(q, v(1.5, 0)), 1, -0.5}, {q, moved(q, v(4, 4)), 1, 2}, {q, moved(q, v(3, 4)), 2, 2}, {q, moved(q, v(-1, -1)), 0, -1},
		{turned(q, 1), turned(q, 1), 0, -2}, {turned(q, 2), moved(q, v(0, 5)), 0, 3}, {q, points(0.5, 0.5, 1.5, 0.5, 1, 1.5), 0, -1.5},
		{q, moved(q, v(2, 2)), 1, 0}, {q, moved(q, v(0, -2)), 0, 0},
		{points(0, 0, 4, -3, 4, 5), points(1, -7, 4, -13, 5, -10), 0, 5},
	} {
		side, far, e := poly.Apart(c.a, c.b)
		isErr(t, e, api.OK, "Apart", i)
		if side != c.side || far != c.far {
			t.Errorf("%d: Apart(%v, %v) is %d, %v, not %d, %v", i, c.a, c.b, side, far, c.side, c.far)
		}
	}
}

func TestP6_6ApartNoughts(t *testing.T) {
	// The points of b that lie on the line of a's right side are nought ahead of it, one of minus nought; the first one's sign stays.
	a := points(-4, -4, 0, -4, 0, 4, -4, 4)
	seen := map[bool]int{}
	for _, zero := range []float64{0, minus} {
		for _, b := range [][]api.Vec{points(zero, -1, 1, 0, zero, 1), points(zero, 1, zero, -1, 1, 0), points(-zero, 1, zero, -1, 1, 0), points(zero, 0, 3, 0, zero, 3), points(minus, minus, 3, 0, zero, 3)} {
			isErr(t, wantCheck(b), api.OK, "the test's own question", b)
			isApart(t, a, b)
			_, far, _ := poly.Apart(a, b)
			seen[math.Signbit(far)]++
			low := points(-4, -4, 4, -4, 4, 0, -4, 0)
			isApart(t, low, points(-1, zero, 1, zero, 0, 1))
			isApart(t, low, points(1, zero, 0, 1, -1, minus))
		}
	}
	if len(seen) != 2 {
		t.Errorf("only noughts of one sign: %v", seen)
	}
}

func TestP6_7Rectangle(t *testing.T) {
	count := map[api.Errno]int{}
	check := func(c, h api.Vec) {
		t.Helper()
		var want []api.Vec
		e := api.ErrReal
		if within(c) && within(h) && h.X >= api.MinReal && h.Y >= api.MinReal {
			left, right, low, high := sub(c.X, h.X), add(c.X, h.X), sub(c.Y, h.Y), add(c.Y, h.Y)
			want = points(left, low, right, low, right, high, left, high)
			if e = wantCheck(want); e != api.OK {
				want = nil
			}
		}
		got, gotE := poly.Rectangle(c, h)
		isErr(t, gotE, e, "Rectangle", c, h)
		isList(t, got, want, "Rectangle", c, h)
		count[e]++
	}
	edges := []float64{none, -inf, -past, -api.MaxReal, -1, -0x1p-30, minus, 0, math.Nextafter(api.MinReal, 0), api.MinReal, 0x1p-13, 0.5, 1, 3.7, 0x1p39, api.MaxReal, past, inf}
	for _, a := range edges {
		for _, b := range edges {
			for _, c := range edges {
				for _, d := range edges {
					check(v(a, b), v(c, d))
				}
			}
		}
	}
	s := source(7)
	for range 20000 {
		check(s.place(s.plain), s.place(s.plain))
		check(s.place(s.plain), s.place(s.part))
	}
	if count[api.OK] < 1000 || count[api.ErrPoly] < 100 || count[api.ErrReal] < 1000 {
		t.Errorf("too few of one kind: %v", count)
	}
}

func TestP6_7RectangleEdges(t *testing.T) {
	for i, c := range []struct {
		centre, half api.Vec
		want         []api.Vec
		e            api.Errno
	}{
		{v(0, 0), v(1, 2), points(-1, -2, 1, -2, 1, 2, -1, 2), api.OK}, {v(3, -1), v(0.5, 0.25), points(2.5, -1.25, 3.5, -1.25, 3.5, -0.75, 2.5, -0.75), api.OK},
		{v(0, 0), v(api.MinReal, api.MinReal), points(-0x1p-30, -0x1p-30, 0x1p-30, -0x1p-30, 0x1p-30, 0x1p-30, -0x1p-30, 0x1p-30), api.OK},
		{v(0, 0), v(math.Nextafter(api.MinReal, 0), 1), nil, api.ErrReal}, {v(0, 0), v(1, math.Nextafter(api.MinReal, 0)), nil, api.ErrReal},
		{v(0, 0), v(-1, 1), nil, api.ErrReal}, {v(0, 0), v(1, -1), nil, api.ErrReal}, {v(0, 0), v(none, 1), nil, api.ErrReal}, {v(0, 0), v(1, inf), nil, api.ErrReal}, {v(none, 0), v(1, 1), nil, api.ErrReal}, {v(0, -inf), v(1, 1), nil, api.ErrReal},
		{v(0, 0), v(api.MaxReal, 1), points(-0x1p40, -1, 0x1p40, -1, 0x1p40, 1, -0x1p40, 1), api.OK},
		{v(1, 0), v(api.MaxReal, 1), nil, api.ErrReal}, {v(0x1p40, 0), v(1, 1), nil, api.ErrReal}, {v(0, -0x1p40), v(1, 1), nil, api.ErrReal}, {v(0x1p39, 0), v(0x1p39, 1), points(0, -1, 0x1p40, -1, 0x1p40, 1, 0, 1), api.OK},
		{v(0, 0x1p39), v(1, 0x1p-30), nil, api.ErrPoly}, {v(0x1p39, 0x1p39), v(0x1p-30, 0x1p-30), nil, api.ErrPoly},
	} {
		got, e := poly.Rectangle(c.centre, c.half)
		isErr(t, e, c.e, "Rectangle", i)
		isList(t, got, c.want, "Rectangle", i)
		if e != api.OK && got != nil {
			t.Errorf("Rectangle(%v, %v) is %v beside an error", c.centre, c.half, got)
		}
	}
}

// roomy is a list with spare room on both sides, and the whole that it lies in.
func roomy(l []api.Vec) (list, whole []api.Vec) {
	whole = slices.Concat(points(91, 92), l, points(93, 94, 95, 96, 97, 98))
	return whole[1 : 1+len(l)], whole
}

func TestP6_8Read(t *testing.T) {
	overLists(2000, func(s *source, l []api.Vec) {
		a, whole := roomy(l)
		b, other := roomy(reversed(l))
		kept, keptOther := slices.Clone(whole), slices.Clone(other)
		poly.Check(a)
		hull, _ := poly.Hull(a)
		poly.Area(a)
		poly.Centre(a)
		normals, _ := poly.Normals(a)
		poly.Has(a, s.place(s.plain))
		poly.Far(a, s.place(s.plain))
		poly.Apart(a, b)
		poly.Apart(b, a)
		// What is answered is the caller's, its spare room too.
		for _, answer := range [][]api.Vec{hull, normals} {
			answer = answer[:cap(answer)]
			for i := range answer {
				answer[i] = v(none, none)
			}
		}
		isList(t, whole, kept, "what was handed in")
		isList(t, other, keptOther, "what was handed in")
	})
}

func TestP6_8New(t *testing.T) {
	ask := func() [][]api.Vec {
		hull, _ := poly.Hull(square())
		normals, _ := poly.Normals(square())
		four, _ := poly.Rectangle(v(1, 1), v(1, 1))
		return [][]api.Vec{hull, normals, four}
	}
	first := ask()
	for k, l := range first {
		kept := slices.Clone(l)
		again := ask()
		for i := range l[:cap(l)] {
			l[:cap(l)][i] = v(7, 7)
		}
		isList(t, again[k], kept, "an answer, when another was changed", k)
		isList(t, ask()[k], kept, "an answer after one was changed", k)
	}
	// The corners alone, so that the answer has all of the points.
	own, _ := poly.Hull(square())
	l := square()
	hull, _ := poly.Hull(l)
	l[0] = v(-9, -9)
	isList(t, hull, own, "a hull, when what it was made of was changed")
}

func TestP6_9BegunElsewhere(t *testing.T) {
	overPolygons(5000, func(_ *source, l []api.Vec) {
		normals, _ := poly.Normals(l)
		for k := range l {
			isErr(t, poly.Check(turned(l, k)), api.OK, "Check", l, k)
			got, e := poly.Normals(turned(l, k))
			isErr(t, e, api.OK, "Normals", l, k)
			isList(t, got, turned(normals, k), "Normals", l, k)
		}
	})
	overLists(5000, func(_ *source, l []api.Vec) {
		for k := range l {
			isErr(t, poly.Check(turned(l, k)), poly.Check(l), "Check", l, k)
		}
	})
}

func isAmong(l []api.Vec, p api.Vec) bool {
	return slices.ContainsFunc(l, func(q api.Vec) bool { return sameVec(p, q) })
}

func TestP6_9HullPoints(t *testing.T) {
	check := func(l []api.Vec) {
		t.Helper()
		hull, e := poly.Hull(l)
		if e != api.OK {
			return
		}
		isErr(t, poly.Check(hull), api.OK, "Check of Hull", l)
		for i, p := range hull {
			if !isAmong(l, p) || slices.Contains(hull[:i], p) {
				t.Fatalf("Hull(%v) has %v", l, p)
			}
			if p.X < hull[0].X || p.X == hull[0].X && p.Y < hull[0].Y {
				t.Fatalf("Hull(%v) begins at %v, not at %v", l, hull[0], p)
			}
		}
	}
	overLists(20000, func(_ *source, l []api.Vec) { check(l) })
	s := source(9)
	for range 2000 {
		check(s.flat(s.below(65)))
		check(s.places(s.below(65), s.plain))
	}
}

func TestP6_9HullOfWholeNumbers(t *testing.T) {
	s := source(24)
	bound := func() float64 { return []float64{-1 << 24, 1 - 1<<24, 0, 1<<24 - 1, 1 << 24}[s.below(5)] }
	near := func() float64 { return float64(s.below(4)) + 1<<24 - 3 }
	found := 0
	for range 3000 {
		for _, part := range []func() float64{s.whole, s.few, bound, near} {
			l := s.places(s.below(65), part)
			hull, e := poly.Hull(l)
			if e != api.OK {
				isErr(t, e, api.ErrFlat, "Hull", l)
				continue
			}
			found++
			for _, p := range l {
				if has, e := poly.Has(hull, p); !has || e != api.OK {
					t.Fatalf("Hull(%v) has not %v", l, p)
				}
			}
			again, e := poly.Hull(hull)
			isErr(t, e, api.OK, "Hull of Hull", l)
			isList(t, again, hull, "Hull of Hull", l)
		}
	}
	if found < 8000 {
		t.Errorf("only %d hulls", found)
	}
}

func TestP6_9HasItsPoints(t *testing.T) {
	overPolygons(20000, func(_ *source, l []api.Vec) {
		for _, p := range l {
			if has, e := poly.Has(l, p); !has || e != api.OK {
				t.Fatalf("%v has not its point %v", l, p)
			}
		}
		if _, far, e := poly.Apart(l, l); far > 0 || e != api.OK {
			t.Fatalf("Apart of %v and itself is %v", l, far)
		}
	})
}

// hasRoom tells whether all of a list's lengths stay what they may be, so many times as great.
func hasRoom(l []api.Vec, by float64) bool {
	for i, p := range l {
		if math.Abs(p.X)*by > api.MaxReal || math.Abs(p.Y)*by > api.MaxReal {
			return false
		}
		for _, q := range l[:i] {
			if n := length(less(p, q)); n != 0 && (n*by < api.MinReal || n < api.MinReal) {
				return false
			}
		}
	}
	return true
}

func checkScaled(t *testing.T, l, other []api.Vec, by float64) {
	t.Helper()
	big := scaled(l, by)
	e := poly.Check(l)
	isErr(t, poly.Check(big), e, "Check", l, by)
	hull, e := poly.Hull(l)
	bigHull, bigE := poly.Hull(big)
	isErr(t, bigE, e, "Hull", l, by)
	isList(t, bigHull, scaled(hull, by), "Hull", l, by)
	area, e := poly.Area(l)
	bigArea, bigE := poly.Area(big)
	isErr(t, bigE, e, "Area", l, by)
	isFloat(t, bigArea, area*by*by, "Area", l, by)
	centre, e := poly.Centre(l)
	bigCentre, bigE := poly.Centre(big)
	isErr(t, bigE, e, "Centre", l, by)
	isVec(t, bigCentre, v(centre.X*by, centre.Y*by), "Centre", l, by)
	side, far, e := poly.Apart(l, other)
	bigSide, bigFar, bigE := poly.Apart(big, scaled(other, by))
	isErr(t, bigE, e, "Apart", l, other, by)
	isFloat(t, bigFar, far*by, "Apart", l, other, by)
	if bigSide != side {
		t.Fatalf("Apart(%v, %v) is at the side %d, %v times as great at %d", l, other, side, by, bigSide)
	}
}

func TestP6_9PowersOfTwo(t *testing.T) {
	s, last, done := source(8), square(), 0
	try := func(l []api.Vec) {
		t.Helper()
		by := math.Ldexp(1, s.below(17)-8)
		if hasRoom(l, by) && hasRoom(last, by) {
			checkScaled(t, l, last, by)
			done++
		}
		if wantCheck(l) == api.OK {
			last = l
		}
	}
	overLists(10000, func(_ *source, l []api.Vec) { try(l) })
	for range 500 {
		try(s.places(s.below(65), s.plain))
	}
	for k := -8; k <= 8; k++ {
		checkScaled(t, square(), regular(8, 1, 3), math.Ldexp(1, k))
	}
	if done < 30000 {
		t.Errorf("only %d", done)
	}
}

func TestExamples(t *testing.T) {
	q, five := square(), regular(5, 1, 1)
	star := []api.Vec{five[0], five[2], five[4], five[1], five[3]}
	for i, c := range []struct {
		l []api.Vec
		e api.Errno
	}{
		{q, api.OK}, {reversed(q), api.ErrPoly}, {points(0, 0, 1, 0, 2, 0, 2, 2, 0, 2), api.ErrPoly}, {points(0, 0, 1, 0), api.ErrPoly}, {star, api.ErrPoly}, {points(0, 0, 2, none, 2, 2, 0, 2), api.ErrReal},
	} {
		isErr(t, poly.Check(c.l), c.e, "Check", i)
	}
	hull := func(l, want []api.Vec, e api.Errno) {
		t.Helper()
		got, gotE := poly.Hull(l)
		isErr(t, gotE, e, "Hull", l)
		isList(t, got, want, "Hull", l)
	}
	hull(points(2, 2, 0, 0, 1, 1, 2, 0, 0, 2, 2, 0), q, api.OK)
	hull(points(0, 0, 1, 1, 2, 2), nil, api.ErrFlat)
	hull(nil, nil, api.ErrFlat)
	hull(make([]api.Vec, 65), nil, api.ErrMany)
	area, _ := poly.Area(q)
	isFloat(t, area, 4, "Area")
	centre, _ := poly.Centre(q)
	isVec(t, centre, v(1, 1), "Centre")
	normals, _ := poly.Normals(q)
	// The table's noughts are 'as they come': the third one's is 2 - 2, which has no sign.
	isList(t, normals, points(0, -1, 1, minus, 0, 1, -1, minus), "Normals")
}

func TestExamplesOfPlaces(t *testing.T) {
	q := square()
	in, _ := poly.Has(q, v(2, 1))
	out, _ := poly.Has(q, v(2.5, 1))
	if !in || out {
		t.Errorf("Has: %v, %v", in, out)
	}
	up, _ := poly.Far(q, v(1, 1))
	down, _ := poly.Far(q, v(0, -1))
	if up != 2 || down != 0 {
		t.Errorf("Far: %d, %d", up, down)
	}
	if side, far, e := poly.Apart(q, moved(q, v(3, 0))); side != 1 || far != 1 || e != api.OK {
		t.Errorf("Apart: %d, %v, %d", side, far, e)
	}
	if side, far, e := poly.Apart(q, q); side != 0 || far != -2 || e != api.OK {
		t.Errorf("Apart: %d, %v, %d", side, far, e)
	}
	four, e := poly.Rectangle(v(1, 1), v(1, 1))
	isErr(t, e, api.OK, "Rectangle")
	isList(t, four, q, "Rectangle")
	_, e = poly.Rectangle(v(0, 0), v(1, 0))
	isErr(t, e, api.ErrReal, "Rectangle")
	_, e = poly.Rectangle(v(0x1p40, 0), v(0x1p-30, 1))
	isErr(t, e, api.ErrPoly, "Rectangle")
}
