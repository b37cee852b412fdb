package clip_test

import (
	"math"
	"math/big"
	"slices"
	"testing"

	"tumble/api"
	"tumble/clip"
	"tumble/poly"
)

var (
	minus = math.Copysign(0, -1)
	none  = math.NaN()
	inf   = math.Inf(1)
	past  = math.Nextafter(api.MaxReal, inf)
)

func v(x, y float64) api.Vec { return api.Vec{X: x, Y: y} }

func plane(x, y, far float64) api.Plane { return api.Plane{Normal: v(x, y), Far: far} }

// points are told by their parts, one after the other.
func points(l ...float64) []api.Vec {
	var p []api.Vec
	for i := 0; i < len(l); i += 2 {
		p = append(p, v(l[i], l[i+1]))
	}
	return p
}

func square() []api.Vec { return points(0, 0, 2, 0, 2, 2, 0, 2) }

func moved(l []api.Vec, x, y float64) []api.Vec {
	l = slices.Clone(l)
	for i := range l {
		l[i] = v(l[i].X+x, l[i].Y+y)
	}
	return l
}

func scaledVec(p api.Vec, by float64) api.Vec { return v(p.X*by, p.Y*by) }

func scaled(l []api.Vec, by float64) []api.Vec {
	l = slices.Clone(l)
	for i := range l {
		l[i] = scaledVec(l[i], by)
	}
	return l
}

// regular has its points on a circle.
func regular(n int, far float64) []api.Vec {
	l := make([]api.Vec, n)
	for i := range l {
		a := 2 * math.Pi * float64(i) / float64(n)
		l[i] = v(far*math.Cos(a), far*math.Sin(a))
	}
	return l
}

// The oracle rounds each operation by itself: a call that is not inlined can't be worked out as one with the next.
//
//go:noinline
func add(a, b float64) float64 { return a + b }

//go:noinline
func sub(a, b float64) float64 { return a - b }

//go:noinline
func mul(a, b float64) float64 { return a * b }

//go:noinline
func div(a, b float64) float64 { return a / b }

func dot(a, b api.Vec) float64 { return add(mul(a.X, b.X), mul(a.Y, b.Y)) }

// same is told by bits, apart from what the package does.
func same(a, b float64) bool {
	if math.IsNaN(a) || math.IsNaN(b) {
		return math.IsNaN(a) && math.IsNaN(b)
	}
	return math.Float64bits(a) == math.Float64bits(b)
}

func sameVec(a, b api.Vec) bool { return same(a.X, b.X) && same(a.Y, b.Y) }

func samePlane(a, b api.Plane) bool { return sameVec(a.Normal, b.Normal) && same(a.Far, b.Far) }

func isErr(t *testing.T, got, want api.Errno, call string, args ...any) {
	t.Helper()
	if got != want {
		t.Fatalf("%s%v tells %d, not %d", call, args, got, want)
	}
}

func isList(t *testing.T, got, want []api.Vec, call string, args ...any) {
	t.Helper()
	if !slices.EqualFunc(got, want, sameVec) {
		t.Fatalf("%s%v is %v, not %v", call, args, got, want)
	}
}

func isFrom(t *testing.T, got, want []int, call string, args ...any) {
	t.Helper()
	if !slices.Equal(got, want) {
		t.Fatalf("%s%v comes from %v, not %v", call, args, got, want)
	}
}

func isFloat(t *testing.T, got, want float64, call string, args ...any) {
	t.Helper()
	if !same(got, want) {
		t.Fatalf("%s%v is %v, not %v", call, args, got, want)
	}
}

// enough tells of each kind whether it came up so often.
func enough[K comparable](t *testing.T, count map[K]int, least int, kinds ...K) {
	t.Helper()
	for _, k := range kinds {
		if count[k] < least {
			t.Errorf("too few of %v: %v", k, count)
		}
	}
}

// source makes floats from a rule of whole numbers: the same ones in each run.
type source uint64

func (s *source) next() uint64 {
	*s = *s*6364136223846793005 + 1442695040888963407
	return uint64(*s >> 31)
}

func (s *source) below(n int) int { return int(s.next() % uint64(n)) }

// plain has all its bits in use, and is from some 2^-20 to 2^20.
func (s *source) plain() float64 {
	whole := int64(s.next()<<20^s.next())&(1<<53-1) - 1<<52
	return math.Ldexp(float64(whole), s.below(40)-72)
}

// part is from 0 to 1.
func (s *source) part() float64 { return float64(s.next()&(1<<30-1)) / (1 << 30) }

// few are from few floats, noughts among them.
func (s *source) few() float64 { return []float64{-2, -1, minus, 0, 1, 2}[s.below(6)] }

func (s *source) place() api.Vec {
	if s.below(2) == 0 {
		return v(s.few(), s.few())
	}
	return v(s.plain(), s.plain())
}

// ring are points of a circle, rising by their angles: most often a polygon.
func (s *source) ring(n int) []api.Vec {
	middle, far := s.place(), math.Ldexp(1+s.part(), s.below(30)-15)
	angles := make([]float64, n)
	for i := range angles {
		angles[i] = s.part() * 2 * math.Pi
	}
	slices.Sort(angles)
	l := make([]api.Vec, n)
	for i, a := range angles {
		l[i] = v(middle.X+far*math.Cos(a), middle.Y+far*math.Sin(a))
	}
	return l
}

// flat are points so near to one line that rounding decides what they are.
func (s *source) flat(n int) []api.Vec {
	way := v(s.part(), s.part())
	l := make([]api.Vec, n)
	for i := range l {
		far := 4 * s.part()
		l[i] = v(way.X*far, way.Y*far)
		if s.below(2) == 0 {
			l[i].X = math.Nextafter(l[i].X, inf)
		}
	}
	return l
}

func (s *source) coarse(n int) []api.Vec {
	l := make([]api.Vec, n)
	for i := range l {
		l[i] = v(s.few(), s.few())
	}
	return l
}

// away are points so far away that there are only a few floats between them: cuts are rounded to the points themselves.
func (s *source) away() []api.Vec {
	l := make([]api.Vec, 3+s.below(4))
	low := 0x1p39 + float64(s.below(4))*0x1p-13
	for i := range l {
		l[i] = v(low+float64(s.below(4))*0x1p-13, -low+float64(s.below(4))*0x1p-13)
	}
	if h, e := poly.Hull(l); e == api.OK {
		return h
	}
	return l
}

func (s *source) polygon() []api.Vec {
	for {
		var l []api.Vec
		switch s.below(8) {
		case 0:
			l = s.flat(3 + s.below(2))
		case 1, 2:
			l, _ = poly.Hull(s.coarse(3 + s.below(6)))
		case 3:
			l = s.coarse(3)
		case 4:
			l = s.away()
		case 5:
			l = moved(regular(3+s.below(62), 1+s.part()), s.few(), s.few())
		default:
			l = s.ring(3 + s.below(6))
		}
		if poly.Check(l) == api.OK {
			return l
		}
	}
}

func (s *source) normal() api.Vec {
	if s.below(2) == 0 {
		return points(1, 0, 0, 1, -1, 0, 0, -1, 0.6, 0.8, -0.8, 0.6, 1, minus, minus, -1)[s.below(8)]
	}
	a := s.part() * 2 * math.Pi
	return v(math.Cos(a), math.Sin(a))
}

// plane is one that goes near points or through them, most often.
func (s *source) plane(l []api.Vec) api.Plane {
	n := s.normal()
	if s.below(4) == 0 && poly.Check(l) == api.OK {
		normals, _ := poly.Normals(l)
		n = normals[s.below(len(normals))]
	}
	a, b := dot(n, l[s.below(len(l))]), dot(n, l[s.below(len(l))])
	switch s.below(6) {
	case 0, 1:
		return api.Plane{Normal: n, Far: a}
	case 2:
		return api.Plane{Normal: n, Far: s.few()}
	case 3:
		return api.Plane{Normal: n, Far: a + 0x1p-13}
	}
	t := s.part()
	return api.Plane{Normal: n, Far: a*t + b*(1-t)}
}

// overPolygons hands over polygons, and planes that go near them.
func overPolygons(n int, f func(s *source, p api.Plane, l []api.Vec)) {
	s := source(9)
	for range n {
		l := s.polygon()
		f(&s, s.plane(l), l)
	}
}

// overSegments hands over two places, and planes that go near them.
func overSegments(n int, f func(s *source, p api.Plane, a, b api.Vec)) {
	s := source(2)
	for range n {
		l := []api.Vec{s.place(), s.place()}
		switch s.below(8) {
		case 0:
			l = s.away()
		case 1:
			l = []api.Vec{v(api.MaxReal*s.few()/2, s.plain()), v(s.plain(), api.MaxReal*s.few()/2)}
		case 2:
			l[1] = l[0]
		}
		f(&s, s.plane(l), l[0], l[1])
	}
}

// wrongPlanes are such as may not be.
func wrongPlanes() []api.Plane {
	l := []api.Plane{
		{}, plane(1, 1, 0), plane(0, 0, 1), plane(0.5, 0.5, 0), plane(2, 0, 0), plane(-2, 2, 0), plane(minus, minus, 0), plane(3, 4, 5),
		// The squares are next to those that may be.
		plane(1, 0x1p-20*(1+0x1p-12), 0), plane(0x1p-20*(1+0x1p-12), -1, 0), plane(1-0x1p-41-0x1p-53, 0, 0), plane(0, -1+0x1p-41+0x1p-53, 0),
	}
	for _, f := range []float64{none, inf, -inf, 0x1p43, -0x1p43, math.Nextafter(0x1p42, inf), -math.Nextafter(0x1p42, inf), math.MaxFloat64} {
		l = append(l, plane(1, 0, f), plane(f, 1, 0), plane(1, f, 0), plane(f, f, f))
	}
	return l
}

// wrongPlaces are not Within MaxReal.
func wrongPlaces() []api.Vec {
	var l []api.Vec
	for _, f := range []float64{none, inf, -inf, past, -past, math.MaxFloat64} {
		l = append(l, v(f, 0), v(1, f), v(f, f))
	}
	return l
}

// wrongPolygons are such as poly.Check refuses, with each of its errors.
func wrongPolygons() [][]api.Vec {
	back := square()
	slices.Reverse(back)
	return [][]api.Vec{
		nil, {}, points(1, 1), points(0, 0, 1, 0), back, points(0, 0, 1, 0, 2, 0, 2, 2, 0, 2), points(0, 0, 1, 1, 2, 2),
		points(0, 0, 2, 0, 2, none), points(past, 0), points(0, 0, 2, 0, 2, -inf, 0, 2),
		make([]api.Vec, 64), make([]api.Vec, 65), regular(65, 1), slices.Repeat(points(none, 0), 65),
	}
}

// wantFar goes by the words of how far a place lies beyond a plane.
func wantFar(p api.Plane, at api.Vec) float64 { return sub(dot(p.Normal, at), p.Far) }

func wantCheck(p api.Plane) api.Errno {
	for _, f := range []float64{p.Normal.X, p.Normal.Y} {
		if math.IsNaN(f) || f < -2 || f > 2 {
			return api.ErrPlane
		}
	}
	if n := dot(p.Normal, p.Normal); n < 1-0x1p-40 || n > 1+0x1p-40 {
		return api.ErrPlane
	}
	if math.IsNaN(p.Far) || p.Far < -0x1p42 || p.Far > 0x1p42 {
		return api.ErrPlane
	}
	return api.OK
}

func TestP9_1Check(t *testing.T) {
	count := map[api.Errno]int{}
	s := source(1)
	for range 20000 {
		p := s.plane([]api.Vec{s.place(), s.place()})
		switch s.below(6) {
		case 0:
			p.Normal = s.place()
		case 1:
			p.Normal.X += (s.part() - 0.5) * 0x1p-39
		case 2:
			p.Normal.Y += (s.part() - 0.5) * 0x1p-38
		case 3:
			p.Far = math.Ldexp(1+s.part(), 38+s.below(6)) * s.few()
		}
		want := wantCheck(p)
		count[want]++
		isErr(t, clip.Check(p), want, "Check", p)
	}
	enough(t, count, 3000, api.OK, api.ErrPlane)
}

func TestP9_1CheckEdges(t *testing.T) {
	for _, p := range []api.Plane{
		plane(1, 0, 0), plane(minus, -1, minus), plane(0.6, -0.8, 5), plane(1, 0x1p-20, 0), plane(-0x1p-20, 1, 0), plane(1-0x1p-41, 0, 0), plane(0, 0x1p-41-1, 0),
		plane(1, 0, 0x1p42), plane(0, 1, -0x1p42), plane(1, 0, math.SmallestNonzeroFloat64),
	} {
		isErr(t, clip.Check(p), api.OK, "Check", p)
	}
	for _, p := range wrongPlanes() {
		isErr(t, wantCheck(p), api.ErrPlane, "the test's own question", p)
		isErr(t, clip.Check(p), api.ErrPlane, "Check", p)
	}
}

func TestP9_1Far(t *testing.T) {
	count := map[int]int{}
	overSegments(40000, func(_ *source, p api.Plane, a, b api.Vec) {
		for _, at := range []api.Vec{a, b} {
			want := wantFar(p, at)
			got, e := clip.Far(p, at)
			isErr(t, e, api.OK, "Far", p, at)
			isFloat(t, got, want, "Far", p, at)
			switch {
			case want > 0:
				count[1]++
			case want < 0:
				count[-1]++
			default:
				count[0]++
			}
		}
	})
	enough(t, count, 5000, -1, 0, 1)
}

func TestP9_1FarEdges(t *testing.T) {
	for i, c := range []struct {
		p    api.Plane
		at   api.Vec
		want float64
	}{
		{plane(1, 0, minus), v(minus, minus), 0}, {plane(1, 0, 0), v(minus, minus), minus}, {plane(-1, 0, 0), v(0, minus), minus}, {plane(0, 1, 2), v(9, 2), 0},
		{plane(1, 0, -0x1p42), v(api.MaxReal, api.MaxReal), 0x1p42 + 0x1p40}, {plane(0, -1, 0x1p42), v(0, api.MaxReal), -0x1p42 - 0x1p40}, {plane(0.6, 0.8, 5), v(5, -5), -6},
		// The sum of the products is rounded ahead of the difference.
		{plane(1, 0x1p-20, 1), v(1, 0x1p-40), 0}, {plane(1, 0x1p-20, 0), v(0x1p40, 0x1p40), 0x1p40 + 0x1p20},
	} {
		got, e := clip.Far(c.p, c.at)
		isErr(t, e, api.OK, "Far", i)
		isFloat(t, got, c.want, "Far", i)
	}
	for _, p := range wrongPlanes() {
		for _, at := range append(wrongPlaces(), v(1, 2)) {
			got, e := clip.Far(p, at)
			isErr(t, e, api.ErrPlane, "Far", p, at)
			isFloat(t, got, 0, "Far", p, at)
		}
	}
	for _, at := range wrongPlaces() {
		got, e := clip.Far(plane(1, 0, 1), at)
		isErr(t, e, api.ErrReal, "Far", at)
		isFloat(t, got, 0, "Far", at)
	}
}

// wantCut goes by the words of the cut.
func wantCut(p api.Plane, a, b api.Vec) api.Vec {
	u, w := wantFar(p, a), wantFar(p, b)
	t := div(u, sub(u, w))
	return v(add(a.X, mul(t, sub(b.X, a.X))), add(a.Y, mul(t, sub(b.Y, a.Y))))
}

func isWithin(p api.Plane, at api.Vec) bool { return wantFar(p, at) <= 0 }

// wantSegment goes by P9.2's words.
func wantSegment(p api.Plane, a, b api.Vec) ([]api.Vec, []int) {
	first, second := isWithin(p, a), isWithin(p, b)
	if first && second {
		return []api.Vec{a, b}, []int{0, 1}
	}
	if first {
		return []api.Vec{a, wantCut(p, a, b)}, []int{0, 2}
	}
	if second {
		return []api.Vec{wantCut(p, a, b), b}, []int{2, 1}
	}
	return nil, nil
}

func isSegment(t *testing.T, p api.Plane, a, b api.Vec) []int {
	t.Helper()
	l, from, e := clip.Segment(p, a, b)
	want, wantFrom := wantSegment(p, a, b)
	isErr(t, e, api.OK, "Segment", p, a, b)
	isList(t, l, want, "Segment", p, a, b)
	isFrom(t, from, wantFrom, "Segment", p, a, b)
	return from
}

func TestP9_2Segment(t *testing.T) {
	count := map[[2]int]int{}
	overSegments(60000, func(_ *source, p api.Plane, a, b api.Vec) {
		kind := [2]int{-1, -1}
		copy(kind[:], isSegment(t, p, a, b))
		count[kind]++
		isSegment(t, p, b, a)
	})
	enough(t, count, 3000, [2]int{0, 1}, [2]int{0, 2}, [2]int{2, 1}, [2]int{-1, -1})
}

func TestP9_2SegmentEdges(t *testing.T) {
	for i, c := range []struct {
		p    api.Plane
		a, b api.Vec
		want []api.Vec
		from []int
	}{
		// An end on the plane itself lies within, and the cut is there too.
		{plane(1, 0, 1), v(1, 0), v(3, 4), points(1, 0, 1, 0), []int{0, 2}}, {plane(1, 0, 1), v(3, 4), v(1, 0), points(1, 0, 1, 0), []int{2, 1}},
		{plane(1, 0, 1), v(1, 0), v(1, 5), points(1, 0, 1, 5), []int{0, 1}}, {plane(1, 0, 1), v(1, 5), v(1, 5), points(1, 5, 1, 5), []int{0, 1}},
		{plane(1, 0, 1), v(math.Nextafter(1, 2), 0), v(math.Nextafter(1, 2), 3), nil, nil}, {plane(1, 0, 1), v(2, 2), v(2, 2), nil, nil},
		{plane(0, -1, 0), v(0, -1), v(8, 3), points(2, 0, 8, 3), []int{2, 1}}, {plane(0.6, 0.8, 5), v(0, 0), v(6, 8), points(0, 0, 3, 4), []int{0, 2}},
		// Noughts as they come: where the first end lies on the plane, the cut's share of the way is nought or, if it is nought beyond it, minus nought.
		{plane(1, 0, 0), v(minus, minus), v(1, 1), points(minus, minus, 0, 0), []int{0, 2}}, {plane(1, 0, 0), v(minus, minus), v(1, -1), points(minus, minus, 0, minus), []int{0, 2}},
		{plane(1, 0, minus), v(minus, minus), v(1, 1), points(minus, minus, minus, minus), []int{0, 2}}, {plane(1, 0, minus), v(minus, minus), v(1, -1), points(minus, minus, minus, 0), []int{0, 2}},
		{plane(1, 0, 0), v(1, 1), v(minus, minus), points(0, 0, minus, minus), []int{2, 1}}, {plane(1, 0, minus), v(0, minus), v(minus, 0), points(0, minus, minus, 0), []int{0, 1}},
		{plane(1, 0, 0), v(-api.MaxReal, -api.MaxReal), v(api.MaxReal, api.MaxReal), points(-api.MaxReal, -api.MaxReal, 0, 0), []int{0, 2}},
		{plane(1, 0, 0x1p42), v(api.MaxReal, 0), v(0, api.MaxReal), points(api.MaxReal, 0, 0, api.MaxReal), []int{0, 1}}, {plane(1, 0, -0x1p42), v(-api.MaxReal, 0), v(0, 1), nil, nil},
	} {
		l, from, e := clip.Segment(c.p, c.a, c.b)
		isErr(t, e, api.OK, "Segment", i)
		isList(t, l, c.want, "Segment", i)
		isFrom(t, from, c.from, "Segment", i)
	}
}

func TestP9_2SegmentRefuses(t *testing.T) {
	check := func(p api.Plane, a, b api.Vec, want api.Errno) {
		t.Helper()
		l, from, e := clip.Segment(p, a, b)
		isErr(t, e, want, "Segment", p, a, b)
		if len(l) != 0 || len(from) != 0 {
			t.Fatalf("Segment(%v, %v, %v) is %v, %v beside an error", p, a, b, l, from)
		}
	}
	for _, at := range wrongPlaces() {
		for _, p := range wrongPlanes() {
			check(p, at, v(0, 0), api.ErrPlane)
			check(p, v(0, 0), at, api.ErrPlane)
			check(p, v(0, 0), v(0, 0), api.ErrPlane)
		}
		for _, p := range []api.Plane{plane(1, 0, 1), plane(-1, 0, -1), plane(0, 1, 0x1p42)} {
			check(p, at, v(0, 0), api.ErrReal)
			check(p, v(0, 0), at, api.ErrReal)
			check(p, at, at, api.ErrReal)
		}
	}
}

// wantRow is P9.3's row ahead of leaving out.
func wantRow(p api.Plane, l []api.Vec) []api.Vec {
	var row []api.Vec
	for i, a := range l {
		b := l[0]
		if i < len(l)-1 {
			b = l[i+1]
		}
		if isWithin(p, a) {
			row = append(row, a)
		}
		if isWithin(p, a) != isWithin(p, b) {
			row = append(row, wantCut(p, a, b))
		}
	}
	return row
}

func alike(a, b api.Vec) bool { return a.X == b.X && a.Y == b.Y }

// wantLeft goes by P9.3's words, of any points.
func wantLeft(p api.Plane, l []api.Vec) []api.Vec {
	var left []api.Vec
	for _, at := range wantRow(p, l) {
		if n := len(left); n == 0 || !alike(left[n-1], at) {
			left = append(left, at)
		}
	}
	if n := len(left); n > 1 && alike(left[n-1], left[0]) {
		left = left[:n-1]
	}
	if len(left) < 3 {
		return nil
	}
	return left
}

func TestP9_3Polygon(t *testing.T) {
	count := map[string]int{}
	overPolygons(60000, func(_ *source, p api.Plane, l []api.Vec) {
		want := wantLeft(p, l)
		got, e := clip.Polygon(p, l)
		isErr(t, e, api.OK, "Polygon", p, l)
		isList(t, got, want, "Polygon", p, l)
		row := wantRow(p, l)
		switch {
		case len(row) == 0:
			count["none"]++
		case want == nil:
			count["few"]++
		case len(want) == len(l) && slices.EqualFunc(want, l, sameVec):
			count["all"]++
		case len(want) < len(row)-1:
			count["two left out"]++
		case len(want) < len(row) && alike(row[0], row[len(row)-1]):
			count["last left out"]++
		case len(want) < len(row):
			count["one left out"]++
		default:
			count["cut"]++
		}
		if want != nil && poly.Check(want) != api.OK {
			count["no polygon"]++
		}
	})
	enough(t, count, 500, "none", "few", "all", "cut", "two left out", "last left out", "one left out", "no polygon")
}

func TestP9_3PolygonEdges(t *testing.T) {
	five := points(0, 0, 2, 0, 3, 2, 1, 4, -1, 2)
	for i, c := range []struct {
		p       api.Plane
		l, want []api.Vec
	}{
		{plane(0, 1, 1), square(), points(0, 0, 2, 0, 2, 1, 0, 1)}, {plane(0, -1, -1), square(), points(2, 1, 2, 2, 0, 2, 0, 1)}, {plane(-1, 0, -1), square(), points(1, 0, 2, 0, 2, 2, 1, 2)},
		// One corner cut off: one point more.
		{plane(0.6, 0.8, 2), square(), points(0, 0, 2, 0, 2, 1.0000000000000002, 0.6666666666666667, 2, 0, 2)},
		// The plane goes through points: the cuts there are left out, or the points behind them.
		{plane(0, 1, 2), five, points(0, 0, 2, 0, 3, 2, -1, 2)}, {plane(0, -1, -2), five, points(3, 2, 1, 4, -1, 2)}, {plane(1, 0, 2), five, points(0, 0, 2, 0, 2, 3, 1, 4, -1, 2)},
		{plane(0, -1, -4), five, nil}, {plane(0, 1, 0), five, nil}, {plane(0, 1, math.Nextafter(0, -1)), five, nil}, {plane(-1, 0, 1), five, five}, {plane(0, 1, 4), five, five}, {plane(0, 1, 0x1p42), five, five}, {plane(0, 1, -0x1p42), five, nil},
	} {
		got, e := clip.Polygon(c.p, c.l)
		isErr(t, e, api.OK, "Polygon", i)
		isList(t, got, c.want, "Polygon", i)
	}
}

// Of two that are alike the later one is left out, noughts of unlike signs or not.
func TestP9_3PolygonNoughts(t *testing.T) {
	for i, c := range []struct {
		p       api.Plane
		l, want []api.Vec
	}{
		// (minus nought, 2) lies on the plane: behind its cut, which is nought.
		{plane(1, 0, 0), points(-1, 0, 1, 0, minus, 2), points(-1, 0, 0, 0, 0, 2)},
		// Begun there, it comes first, and the cut, which comes last, is left out.
		{plane(1, 0, 0), points(minus, 2, -1, 0, 1, 0), points(minus, 2, -1, 0, 0, 0)},
		{plane(0, -1, 0), points(0, minus, 2, -2, 3, 4, 0, 4), points(0, minus, 2.3333333333333335, 0, 3, 4, 0, 4)},
		{plane(0, 1, 0), points(minus, minus, 4, -1, 4, 4), points(minus, minus, 4, -1, 4, 0)},
	} {
		got, e := clip.Polygon(c.p, c.l)
		isErr(t, e, api.OK, "Polygon", i)
		isList(t, got, c.want, "Polygon", i)
	}
}

// The last one of what is left is left out where it is as great as the first, even behind another such one that went as its neighbour's twin.
func TestP9_3PolygonLastTwice(t *testing.T) {
	found := 0
	overPolygons(60000, func(_ *source, p api.Plane, l []api.Vec) {
		row := wantRow(p, l)
		n := len(row)
		if n < 4 || !alike(row[0], row[n-1]) || !alike(row[0], row[n-2]) {
			return
		}
		found++
		got, e := clip.Polygon(p, l)
		isErr(t, e, api.OK, "Polygon", p, l)
		if len(got) > 0 && alike(got[0], got[len(got)-1]) {
			t.Fatalf("Polygon(%v, %v) is %v", p, l, got)
		}
		isList(t, got, wantLeft(p, l), "Polygon", p, l)
	})
	if found < 5 {
		t.Errorf("only %d", found)
	}
}

func TestP9_3PolygonRefuses(t *testing.T) {
	check := func(p api.Plane, l []api.Vec, want api.Errno) {
		t.Helper()
		got, e := clip.Polygon(p, l)
		isErr(t, e, want, "Polygon", p, l)
		if len(got) != 0 {
			t.Fatalf("Polygon(%v, %v) is %v beside an error", p, l, got)
		}
	}
	for _, p := range wrongPlanes() {
		check(p, square(), api.ErrPlane)
		for _, l := range wrongPolygons() {
			check(p, l, api.ErrPlane)
		}
	}
	count := map[api.Errno]int{}
	for _, l := range wrongPolygons() {
		want := poly.Check(l)
		count[want]++
		check(plane(1, 0, 1), l, want)
		check(plane(1, 0, -0x1p42), l, want)
	}
	enough(t, count, 3, api.ErrMany, api.ErrReal, api.ErrPoly)
	if count[api.OK] != 0 {
		t.Errorf("a polygon among what is none: %v", count)
	}
}

func TestP9_3PolygonMostPoints(t *testing.T) {
	l := regular(64, 1)
	got, e := clip.Polygon(plane(1, 0, 0.99), l)
	isErr(t, e, api.OK, "Polygon of 64 points")
	isList(t, got, wantLeft(plane(1, 0, 0.99), l), "Polygon of 64 points")
	got, e = clip.Polygon(plane(1, 0, 0.999), l)
	isErr(t, e, api.OK, "Polygon of 64 points")
	if len(got) != 65 {
		t.Errorf("one corner of 64 cut off leaves %d points", len(got))
	}
}

// wantSides goes by P9.4's words.
func wantSides(l []api.Vec) []api.Plane {
	normals, _ := poly.Normals(l)
	var planes []api.Plane
	for i := range l {
		planes = append(planes, api.Plane{Normal: normals[i], Far: dot(normals[i], l[i])})
	}
	return planes
}

func TestP9_4Sides(t *testing.T) {
	overPolygons(20000, func(_ *source, _ api.Plane, l []api.Vec) {
		got, e := clip.Sides(l)
		isErr(t, e, api.OK, "Sides", l)
		if want := wantSides(l); !slices.EqualFunc(got, want, samePlane) {
			t.Fatalf("Sides(%v) is %v, not %v", l, got, want)
		}
		for _, p := range got {
			isErr(t, clip.Check(p), api.OK, "Check", p)
		}
	})
	got, e := clip.Sides(points(0, 0, 4, -3, 4, 5))
	isErr(t, e, api.OK, "Sides")
	if want := []api.Plane{plane(-0.6, -0.8, minus), plane(1, 0, 4)}; !slices.Equal(got[:2], want) {
		t.Errorf("Sides are %v, not %v", got, want)
	}
	for _, l := range wrongPolygons() {
		got, e := clip.Sides(l)
		isErr(t, e, poly.Check(l), "Sides", l)
		if len(got) != 0 {
			t.Errorf("Sides(%v) is %v beside an error", l, got)
		}
	}
}

// wantBoth goes by P9.5's words; how many planes it took tells whether it ended early.
func wantBoth(a, b []api.Vec) (left []api.Vec, planes int) {
	left = a
	for i, p := range wantSides(b) {
		if left = wantLeft(p, left); len(left) < 3 {
			return nil, i + 1
		}
	}
	return left, len(b)
}

func isBoth(t *testing.T, a, b []api.Vec) string {
	t.Helper()
	got, e := clip.Both(a, b)
	want, planes := wantBoth(a, b)
	isErr(t, e, api.OK, "Both", a, b)
	isList(t, got, want, "Both", a, b)
	switch {
	case want == nil && planes < len(b):
		return "nothing early"
	case want == nil:
		return "nothing"
	case slices.EqualFunc(want, a, sameVec):
		return "all"
	}
	return "some"
}

// beside is a polygon that lies near another one or over it.
func (s *source) beside(l []api.Vec) []api.Vec {
	if s.below(4) > 0 {
		by := l[s.below(len(l))]
		other := s.polygon()
		if m := moved(other, by.X-other[0].X, by.Y-other[0].Y); poly.Check(m) == api.OK {
			return m
		}
	}
	for range 8 {
		m := slices.Clone(l)
		for i := range m {
			m[i] = v(m[i].X+s.few()/4, m[i].Y+s.few()/4)
		}
		if poly.Check(m) == api.OK {
			return m
		}
	}
	return l
}

func TestP9_5Both(t *testing.T) {
	count := map[string]int{}
	overPolygons(30000, func(s *source, _ api.Plane, l []api.Vec) {
		other := s.beside(l)
		count[isBoth(t, l, other)]++
		count[isBoth(t, other, l)]++
		count[isBoth(t, l, l)]++
	})
	enough(t, count, 1000, "nothing early", "nothing", "all", "some")
}

func TestP9_5BothKnown(t *testing.T) {
	q := square()
	for i, c := range []struct{ a, b, want []api.Vec }{
		{q, q, q}, {q, moved(q, 1, 0), points(1, 0, 2, 0, 2, 2, 1, 2)}, {q, scaled(q, 4), q}, {scaled(q, 4), moved(q, 1, 1), points(1, 1, 3, 1, 3, 3, 1, 3)},
		{q, moved(q, 2, 0), nil}, {q, moved(q, 2, 2), nil}, {q, moved(q, 0, -9), nil},
		{q, points(1, -1, 3, 1, 1, 3, -1, 1), points(0, 0, 2, 0, 2, 2, 0, 2)}, {points(1, -2, 4, 1, 1, 4, -2, 1), q, points(2, 0, 2, 2, 0, 2, 0, 0)},
	} {
		got, e := clip.Both(c.a, c.b)
		isErr(t, e, api.OK, "Both", i)
		for _, p := range c.want {
			if !slices.ContainsFunc(got, func(q api.Vec) bool { return math.Abs(p.X-q.X) < 0x1p-40 && math.Abs(p.Y-q.Y) < 0x1p-40 }) {
				t.Errorf("%d: Both has not %v: %v", i, p, got)
			}
		}
		if len(got) != len(c.want) {
			t.Errorf("%d: Both is %v, not %v", i, got, c.want)
		}
	}
	isBoth(t, regular(64, 1), moved(regular(63, 1), 0.25, 0.5))
}

func TestP9_5BothRefuses(t *testing.T) {
	check := func(a, b []api.Vec, want api.Errno) {
		t.Helper()
		got, e := clip.Both(a, b)
		isErr(t, e, want, "Both", a, b)
		if len(got) != 0 {
			t.Fatalf("Both(%v, %v) is %v beside an error", a, b, got)
		}
	}
	for _, l := range wrongPolygons() {
		check(l, square(), poly.Check(l))
		check(square(), l, poly.Check(l))
		check(moved(square(), 0x1p39, 0), l, poly.Check(l))
		for _, other := range wrongPolygons() {
			check(l, other, poly.Check(l))
		}
	}
}

// roomy is a list with spare room on both sides, and the whole that it lies in.
func roomy(l []api.Vec) (list, whole []api.Vec) {
	whole = slices.Concat(points(91, 92), l, points(93, 94, 95, 96, 97, 98))
	return whole[1 : 1+len(l)], whole
}

func spoil(l []api.Vec) {
	l = l[:cap(l)]
	for i := range l {
		l[i] = v(none, none)
	}
}

func TestP9_6Read(t *testing.T) {
	overPolygons(5000, func(s *source, p api.Plane, l []api.Vec) {
		a, whole := roomy(l)
		b, other := roomy(s.beside(l))
		kept, keptOther := slices.Clone(whole), slices.Clone(other)
		left, _ := clip.Polygon(p, a)
		clip.Sides(a)
		both, _ := clip.Both(a, b)
		back, _ := clip.Both(b, a)
		own, _ := clip.Both(a, a)
		// What is answered is the caller's, its spare room too.
		for _, answer := range [][]api.Vec{left, both, back, own} {
			spoil(answer)
		}
		isList(t, whole, kept, "what was handed in")
		isList(t, other, keptOther, "what was handed in")
	})
}

func TestP9_6New(t *testing.T) {
	q, p := square(), plane(1, 0, 9)
	ask := func() [][]api.Vec {
		seg, _, _ := clip.Segment(p, q[0], q[1])
		left, _ := clip.Polygon(p, q)
		both, _ := clip.Both(q, q)
		return [][]api.Vec{seg, left, both}
	}
	for k, l := range ask() {
		kept := slices.Clone(l)
		again := ask()
		spoil(l)
		isList(t, again[k], kept, "an answer, when another was changed", k)
		isList(t, ask()[k], kept, "an answer after one was changed", k)
	}
	before := ask()
	q[0] = v(0.5, 0.5)
	for _, l := range before {
		isList(t, l[:1], points(0, 0), "an answer, when what it was made of was changed")
	}
	_, from, _ := clip.Segment(p, v(0, 0), v(1, 1))
	from[0] = 7
	_, again, _ := clip.Segment(p, v(0, 0), v(1, 1))
	isFrom(t, again, []int{0, 1}, "Segment after an answer was changed")
	planes, _ := clip.Sides(square())
	planes[0] = api.Plane{}
	next, _ := clip.Sides(square())
	if !samePlane(next[0], wantSides(square())[0]) {
		t.Errorf("Sides after an answer was changed: %v", next)
	}
}

// greatest is the greatest part of points, 1 at least.
func greatest(lists ...[]api.Vec) float64 {
	g := 1.0
	for _, l := range lists {
		for _, p := range l {
			g = max(g, math.Abs(p.X), math.Abs(p.Y))
		}
	}
	return g
}

func exact(f float64) *big.Float { return new(big.Float).SetPrec(300).SetFloat64(f) }

// isNear tells, without rounding, whether a place lies beyond a plane by no more than is promised.
func isNear(p api.Plane, at api.Vec, g float64) bool {
	x := new(big.Float).Mul(exact(p.Normal.X), exact(at.X))
	y := new(big.Float).Mul(exact(p.Normal.Y), exact(at.Y))
	far := x.Add(x, y)
	far.Sub(far, exact(p.Far))
	return far.Cmp(exact(g*0x1p-38)) <= 0
}

func TestP9_7Within(t *testing.T) {
	check := func(l []api.Vec, g float64, planes ...api.Plane) {
		t.Helper()
		for _, at := range l {
			for _, p := range planes {
				if !isNear(p, at, g) {
					t.Fatalf("%v of %v lies beyond %v", at, l, p)
				}
			}
		}
	}
	overSegments(20000, func(_ *source, p api.Plane, a, b api.Vec) {
		l, _, _ := clip.Segment(p, a, b)
		check(l, greatest([]api.Vec{a, b}), p)
	})
	overPolygons(5000, func(s *source, p api.Plane, l []api.Vec) {
		left, _ := clip.Polygon(p, l)
		check(left, greatest(l), p)
		other := s.beside(l)
		both, _ := clip.Both(l, other)
		sides, _ := clip.Sides(other)
		check(both, greatest(l, other), sides...)
		own, _ := clip.Sides(l)
		check(both, greatest(l, other), own...)
	})
}

func TestP9_7AllOrNothing(t *testing.T) {
	count := map[string]int{}
	overPolygons(20000, func(s *source, p api.Plane, l []api.Vec) {
		all, no := true, true
		for _, at := range l {
			far, _ := clip.Far(p, at)
			all, no = all && far <= 0, no && far > 0
		}
		left, _ := clip.Polygon(p, l)
		seg, from, _ := clip.Segment(p, l[0], l[1])
		switch {
		case all:
			count["all"]++
			isList(t, left, l, "Polygon", p, l)
			isList(t, seg, l[:2], "Segment", p, l)
			isFrom(t, from, []int{0, 1}, "Segment", p, l)
		case no:
			count["nothing"]++
			if len(left) != 0 || len(seg) != 0 || len(from) != 0 {
				t.Fatalf("what lies beyond %v: Polygon(%v) is %v, Segment %v, %v", p, l, left, seg, from)
			}
		}
	})
	enough(t, count, 500, "all", "nothing")
}

func TestP9_7BothAllOrNothing(t *testing.T) {
	count := map[string]int{}
	overPolygons(10000, func(s *source, _ api.Plane, l []api.Vec) {
		other := s.beside(l)
		sides, _ := clip.Sides(other)
		all, no := true, false
		for _, p := range sides {
			beyond := 0
			for _, at := range l {
				if far, _ := clip.Far(p, at); far > 0 {
					beyond++
				}
			}
			all = all && beyond == 0
			no = no || beyond == len(l)
		}
		both, _ := clip.Both(l, other)
		if all {
			count["all"]++
			isList(t, both, l, "Both", l, other)
		}
		// Of what an earlier side leaves nothing lies farther back than it did, but for rounding: so only a side that is clear of all tells.
		if _, far, _ := poly.Apart(other, l); no && far > greatest(l, other)*0x1p-38 {
			count["nothing"]++
			if len(both) != 0 {
				t.Fatalf("Both(%v, %v) is %v", l, other, both)
			}
		}
	})
	enough(t, count, 100, "all", "nothing")
}

func TestP9_7SegmentBack(t *testing.T) {
	other := []int{1, 0, 2}
	overSegments(40000, func(_ *source, p api.Plane, a, b api.Vec) {
		l, from, _ := clip.Segment(p, a, b)
		back, fromBack, _ := clip.Segment(p, b, a)
		if len(back) != len(l) || len(from) != len(l) || len(fromBack) != len(l) {
			t.Fatalf("Segment(%v, %v, %v) is %v, back %v", p, a, b, l, back)
		}
		for i, k := range from {
			if fromBack[1-i] != other[k] {
				t.Fatalf("Segment(%v, %v, %v) comes from %v, back from %v", p, a, b, from, fromBack)
			}
			if k != 2 && !sameVec(l[i], back[1-i]) {
				t.Fatalf("Segment(%v, %v, %v) is %v, back %v", p, a, b, l, back)
			}
		}
	})
}

func TestP9_7PolygonKeeps(t *testing.T) {
	overPolygons(40000, func(_ *source, p api.Plane, l []api.Vec) {
		left, _ := clip.Polygon(p, l)
		if len(left) > 2*len(l) {
			t.Fatalf("Polygon(%v, %v) is of %d points", p, l, len(left))
		}
		if len(left) == 1 || len(left) == 2 {
			t.Fatalf("Polygon(%v, %v) is of %d points", p, l, len(left))
		}
		for _, at := range l {
			far, _ := clip.Far(p, at)
			if far <= 0 && len(left) > 0 && !slices.Contains(left, at) {
				t.Fatalf("Polygon(%v, %v) is %v: without %v", p, l, left, at)
			}
		}
	})
}

// hasRoom tells whether all of a list's lengths stay what they may be, so many times as great.
func hasRoom(l []api.Vec, by float64) bool {
	for i, p := range l {
		if greatest(l)*by > api.MaxReal {
			return false
		}
		for _, q := range l[:i] {
			n := math.Hypot(p.X-q.X, p.Y-q.Y)
			if n*by < 2*api.MinReal || n < 2*api.MinReal {
				return false
			}
		}
	}
	return true
}

func checkScaled(t *testing.T, p api.Plane, l, other []api.Vec, by float64) {
	t.Helper()
	big, great := scaled(l, by), api.Plane{Normal: p.Normal, Far: p.Far * by}
	far, e := clip.Far(p, l[0])
	bigFar, bigE := clip.Far(great, big[0])
	isErr(t, bigE, e, "Far", p, l, by)
	isFloat(t, bigFar, far*by, "Far", p, l, by)
	seg, from, _ := clip.Segment(p, l[0], l[1])
	bigSeg, bigFrom, _ := clip.Segment(great, big[0], big[1])
	isList(t, bigSeg, scaled(seg, by), "Segment", p, l, by)
	isFrom(t, bigFrom, from, "Segment", p, l, by)
	left, e := clip.Polygon(p, l)
	bigLeft, bigE := clip.Polygon(great, big)
	isErr(t, bigE, e, "Polygon", p, l, by)
	isList(t, bigLeft, scaled(left, by), "Polygon", p, l, by)
	both, e := clip.Both(l, other)
	bigBoth, bigE := clip.Both(big, scaled(other, by))
	isErr(t, bigE, e, "Both", l, other, by)
	isList(t, bigBoth, scaled(both, by), "Both", l, other, by)
	sides, e := clip.Sides(l)
	bigSides, bigE := clip.Sides(big)
	isErr(t, bigE, e, "Sides", l, by)
	for i, s := range sides {
		if !samePlane(bigSides[i], api.Plane{Normal: s.Normal, Far: s.Far * by}) {
			t.Fatalf("Sides(%v) are %v, %v times as great %v", l, sides, by, bigSides)
		}
	}
}

func TestP9_7PowersOfTwo(t *testing.T) {
	done := 0
	overPolygons(20000, func(s *source, p api.Plane, l []api.Vec) {
		by, other := math.Ldexp(1, s.below(17)-8), s.beside(l)
		if hasRoom(l, by) && hasRoom(other, by) {
			checkScaled(t, p, l, other, by)
			done++
		}
	})
	for k := -8; k <= 8; k++ {
		checkScaled(t, plane(0.6, 0.8, 1), square(), regular(8, 1), math.Ldexp(1, k))
	}
	if done < 10000 {
		t.Errorf("only %d", done)
	}
}

func TestExamples(t *testing.T) {
	p, q := plane(1, 0, 1), square()
	isErr(t, clip.Check(p), api.OK, "Check")
	for _, wrong := range []api.Plane{plane(1, 1, 0), plane(none, 1, 0), plane(1, 0, 0x1p43)} {
		isErr(t, clip.Check(wrong), api.ErrPlane, "Check", wrong)
	}
	far := func(at api.Vec, want float64, e api.Errno) {
		t.Helper()
		got, gotE := clip.Far(p, at)
		isErr(t, gotE, e, "Far", at)
		isFloat(t, got, want, "Far", at)
	}
	far(v(3, 9), 2, api.OK)
	far(v(1, 0), 0, api.OK)
	far(v(none, 0), 0, api.ErrReal)
	segment := func(a, b api.Vec, want []api.Vec, from []int) {
		t.Helper()
		got, gotFrom, e := clip.Segment(p, a, b)
		isErr(t, e, api.OK, "Segment", a, b)
		isList(t, got, want, "Segment", a, b)
		isFrom(t, gotFrom, from, "Segment", a, b)
	}
	segment(v(0, 0), v(4, 4), points(0, 0, 1, 1), []int{0, 2})
	segment(v(4, 4), v(0, 0), points(1, 1, 0, 0), []int{2, 1})
	segment(v(0, 0), v(1, 5), points(0, 0, 1, 5), []int{0, 1})
	segment(v(2, 0), v(3, 0), nil, nil)
	polygon := func(p api.Plane, want []api.Vec) {
		t.Helper()
		got, e := clip.Polygon(p, q)
		isErr(t, e, api.OK, "Polygon", p)
		isList(t, got, want, "Polygon", p)
	}
	polygon(p, points(0, 0, 1, 0, 1, 2, 0, 2))
	polygon(plane(-1, 0, 0), q)
	polygon(plane(1, 0, -1), nil)
	polygon(plane(1, 0, 0), nil)
}

func TestExamplesOfSides(t *testing.T) {
	q := square()
	sides, e := clip.Sides(q)
	isErr(t, e, api.OK, "Sides")
	if want := []api.Plane{plane(0, -1, 0), plane(1, 0, 2), plane(0, 1, 2), plane(-1, 0, 0)}; !slices.Equal(sides, want) {
		t.Errorf("Sides are %v, not %v", sides, want)
	}
	both, e := clip.Both(q, moved(q, 1, 1))
	isErr(t, e, api.OK, "Both")
	// Begun as it comes: the first corner of all is cut off, by what ends at (2, 1).
	isList(t, both, points(2, 1, 2, 2, 1, 2, 1, 1), "Both")
	both, e = clip.Both(q, moved(q, 5, 0))
	isErr(t, e, api.OK, "Both")
	isList(t, both, nil, "Both")
}
