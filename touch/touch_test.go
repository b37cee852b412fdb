package touch_test

import (
	"math"
	"slices"
	"testing"

	"tumble/api"
	"tumble/frame"
	"tumble/near"
	"tumble/poly"
	"tumble/shape"
	"tumble/touch"
)

var (
	minus = math.Copysign(0, -1)
	none  = math.NaN()
	inf   = math.Inf(1)
	past  = math.Nextafter(api.MaxReal, inf)
	short = math.Nextafter(api.MinReal, 0)
)

func v(x, y float64) api.Vec { return api.Vec{X: x, Y: y} }

// points are told by their parts, one after the other.
func points(l ...float64) []api.Vec {
	var p []api.Vec
	for i := 0; i < len(l); i += 2 {
		p = append(p, v(l[i], l[i+1]))
	}
	return p
}

// disc, pill and convex are the three kinds, their points told by parts.
func disc(radius float64, l ...float64) api.Shape {
	return api.Shape{Kind: api.Circle, Radius: radius, Points: points(l...)}
}

func pill(radius float64, l ...float64) api.Shape {
	return api.Shape{Kind: api.Capsule, Radius: radius, Points: points(l...)}
}

func convex(l ...float64) api.Shape { return api.Shape{Kind: api.Polygon, Points: points(l...)} }

func rectangle(x, y, toX, toY float64) api.Shape { return convex(x, y, toX, y, toX, toY, x, toY) }

// spot is a point without impulses.
func spot(id uint32, x, y, depth float64) api.Point {
	return api.Point{ID: id, At: v(x, y), Depth: depth}
}

func scaledVec(p api.Vec, by float64) api.Vec { return v(p.X*by, p.Y*by) }

func scaled(s api.Shape, by float64) api.Shape {
	l := slices.Clone(s.Points)
	for i := range l {
		l[i] = scaledVec(l[i], by)
	}
	return api.Shape{Kind: s.Kind, Radius: s.Radius * by, Points: l}
}

func moved(s api.Shape, x, y float64) api.Shape {
	l := slices.Clone(s.Points)
	for i := range l {
		l[i] = v(l[i].X+x, l[i].Y+y)
	}
	return api.Shape{Kind: s.Kind, Radius: s.Radius, Points: l}
}

// The oracle rounds each operation by itself: a call that is not inlined can't be worked out as one with the next.
//
//go:noinline
func add(a, b float64) float64 { return a + b }

//go:noinline
func sub(a, b float64) float64 { return a - b }

//go:noinline
func mul(a, b float64) float64 { return a * b }

//go:noinline
func div(a, b float64) float64 { return a / b }

func less(a, b api.Vec) api.Vec { return v(sub(a.X, b.X), sub(a.Y, b.Y)) }

func more(a api.Vec, by float64, b api.Vec) api.Vec {
	return v(add(a.X, mul(by, b.X)), add(a.Y, mul(by, b.Y)))
}

func middle(a, b api.Vec) api.Vec { return v(div(add(a.X, b.X), 2), div(add(a.Y, b.Y), 2)) }

func neg(a api.Vec) api.Vec { return v(-a.X, -a.Y) }

func dot(a, b api.Vec) float64 { return add(mul(a.X, b.X), mul(a.Y, b.Y)) }

func cross(a, b api.Vec) float64 { return sub(mul(a.X, b.Y), mul(a.Y, b.X)) }

func length(a api.Vec) float64 { return math.Sqrt(dot(a, a)) }

// unit is asked of ways that are long enough alone.
func unit(a api.Vec) api.Vec {
	n := length(a)
	return v(div(a.X, n), div(a.Y, n))
}

// same is told by bits, apart from what the package does.
func same(a, b float64) bool {
	if math.IsNaN(a) || math.IsNaN(b) {
		return math.IsNaN(a) && math.IsNaN(b)
	}
	return math.Float64bits(a) == math.Float64bits(b)
}

func sameVec(a, b api.Vec) bool { return same(a.X, b.X) && same(a.Y, b.Y) }

func samePoint(a, b api.Point) bool {
	return a.ID == b.ID && sameVec(a.At, b.At) && same(a.Depth, b.Depth) && same(a.Push, b.Push) && same(a.Drag, b.Drag)
}

func samePoints(a, b []api.Point) bool { return slices.EqualFunc(a, b, samePoint) }

func sameTouch(a, b api.Touch) bool {
	return a.Pair == b.Pair && a.Sensor == b.Sensor && sameVec(a.Normal, b.Normal) && samePoints(a.Points, b.Points)
}

func isErr(t *testing.T, got, want api.Errno, call string, args ...any) {
	t.Helper()
	if got != want {
		t.Fatalf("%s%v tells %d, not %d", call, args, got, want)
	}
}

func isTouch(t *testing.T, got, want api.Touch, call string, args ...any) {
	t.Helper()
	if !sameTouch(got, want) {
		t.Fatalf("%s%v is %v, not %v", call, args, got, want)
	}
}

// isShapes holds what Shapes answers of two shapes that may be against a normal and points.
func isShapes(t *testing.T, a, b api.Shape, n api.Vec, l []api.Point) {
	t.Helper()
	gotN, got, e := touch.Shapes(a, b)
	isErr(t, e, api.OK, "Shapes", a, b)
	if !sameVec(gotN, n) || !samePoints(got, l) {
		t.Fatalf("Shapes(%v, %v) is %v %v, not %v %v", a, b, gotN, got, n, l)
	}
}

// enough tells of each kind whether it came up so often.
func enough[K comparable](t *testing.T, count map[K]int, least int, kinds ...K) {
	t.Helper()
	for _, k := range kinds {
		if count[k] < least {
			t.Errorf("too few of %v: %v", k, count)
		}
	}
}

// source makes floats from a rule of whole numbers: the same ones in each run.
type source uint64

func (s *source) next() uint64 {
	*s = *s*6364136223846793005 + 1442695040888963407
	return uint64(*s >> 31)
}

func (s *source) below(n int) int { return int(s.next() % uint64(n)) }

// part is from 0 to 1.
func (s *source) part() float64 { return float64(s.next()&(1<<30-1)) / (1 << 30) }

// plain has all its bits in use, and is from some 2^-20 to 2^8.
func (s *source) plain() float64 {
	whole := int64(s.next()<<20^s.next())&(1<<53-1) - 1<<52
	return math.Ldexp(float64(whole), s.below(28)-72)
}

// few are from few floats, so that places are often equal, in line or as far apart as others, noughts among them.
func (s *source) few() float64 { return []float64{-2, -1, minus, 0, 1, 2}[s.below(6)] }

func (s *source) place() api.Vec {
	if s.below(2) == 0 {
		return v(s.few(), s.few())
	}
	return v(s.plain(), s.plain())
}

// radius is from 2^-20 to 2^10, most often such as makes shapes touch here and there.
func (s *source) radius() float64 {
	if s.below(2) == 0 {
		return []float64{0.25, 0.5, 1, 2}[s.below(4)]
	}
	return math.Ldexp(1+s.part(), s.below(30)-20)
}

// ring are points of a circle, rising by their angles: most often a polygon.
func (s *source) ring(n int) []api.Vec {
	middle, far := s.place(), math.Ldexp(1+s.part(), s.below(16)-8)
	angles := make([]float64, n)
	for i := range angles {
		angles[i] = s.part() * 2 * math.Pi
	}
	slices.Sort(angles)
	l := make([]api.Vec, n)
	for i, a := range angles {
		l[i] = v(middle.X+far*math.Cos(a), middle.Y+far*math.Sin(a))
	}
	return l
}

// flat are points so near to one line that rounding decides what they are.
func (s *source) flat(n int) []api.Vec {
	way := v(s.part(), s.part())
	l := make([]api.Vec, n)
	for i := range l {
		far := 4 * s.part()
		l[i] = v(way.X*far, way.Y*far)
		if s.below(2) == 0 {
			l[i].X = math.Nextafter(l[i].X, inf)
		}
	}
	return l
}

// coarse are the outermost of points of few floats.
func (s *source) coarse(n int) []api.Vec {
	l := make([]api.Vec, n)
	for i := range l {
		l[i] = v(s.few(), s.few())
	}
	h, _ := poly.Hull(l)
	return h
}

func (s *source) corners() []api.Vec {
	for {
		var l []api.Vec
		switch s.below(6) {
		case 0:
			l = s.flat(3 + s.below(2))
		case 1, 2, 3:
			l = s.coarse(3 + s.below(6))
		default:
			l = s.ring(3 + s.below(6))
		}
		if poly.Check(l) == api.OK {
			// Begun at any of them, so that what is first is not always to the left.
			k := s.below(len(l))
			return append(slices.Clone(l[k:]), l[:k]...)
		}
	}
}

// shape is one of a kind that may be.
func (s *source) shape(kind uint8) api.Shape {
	for {
		w := api.Shape{Kind: kind}
		switch kind {
		case api.Circle:
			w.Radius, w.Points = s.radius(), []api.Vec{s.place()}
		case api.Capsule:
			w.Radius, w.Points = s.radius(), []api.Vec{s.place(), s.place()}
		default:
			w.Radius, w.Points = []float64{0, minus}[s.below(2)], s.corners()
		}
		if shape.Check(w) == api.OK {
			return w
		}
	}
}

// beside is one of a kind that may be, and often lies in another one, over it or by it.
func (s *source) beside(a api.Shape, kind uint8) api.Shape {
	for {
		b := s.shape(kind)
		p, q := a.Points[s.below(len(a.Points))], b.Points[s.below(len(b.Points))]
		switch s.below(6) {
		case 0:
			if a.Kind == kind {
				b = moved(a, s.few()/2, s.few()/2)
			}
		case 1:
			b = moved(b, p.X-q.X, p.Y-q.Y)
		case 2:
			b = moved(b, p.X-q.X+s.few()/4, p.Y-q.Y+s.few()/4)
		case 3:
			b = moved(scaled(b, math.Ldexp(1, s.below(12)-8)), p.X, p.Y)
		}
		if shape.Check(b) == api.OK && isSmall(b) {
			return b
		}
	}
}

// isSmall tells whether a shape is such as P11.9 speaks of.
func isSmall(w api.Shape) bool {
	for _, p := range w.Points {
		if math.Abs(p.X) > 0x1p10 || math.Abs(p.Y) > 0x1p10 {
			return false
		}
	}
	return w.Kind == api.Polygon || w.Radius >= 0x1p-20
}

func kinds() []uint8 { return []uint8{api.Circle, api.Capsule, api.Polygon} }

// overKinds hands over n pairs of shapes of two kinds.
func overKinds(n int, a, b uint8, f func(s *source, a, b api.Shape)) {
	s := source(3 + 8*uint64(a) + 64*uint64(b))
	for range n {
		x := s.shape(a)
		f(&s, x, s.beside(x, b))
	}
}

// overPairs hands over n pairs of shapes of each two kinds.
func overPairs(n int, f func(s *source, a, b api.Shape)) {
	for _, a := range kinds() {
		for _, b := range kinds() {
			overKinds(n, a, b, f)
		}
	}
}

// overRound leaves the pairs of polygons out.
func overRound(n int, f func(s *source, a, b api.Shape)) {
	overPairs(n, func(s *source, a, b api.Shape) {
		if a.Kind != api.Polygon || b.Kind != api.Polygon {
			f(s, a, b)
		}
	})
}

// great is a shape as far out, and as round, as may be.
func (s *source) great(kind uint8) api.Shape {
	place := func() api.Vec {
		edge := func() float64 {
			return []float64{-api.MaxReal, -0x1p39, 0, 1, 0x1p39, math.Nextafter(api.MaxReal, 0), api.MaxReal, api.MaxReal * (2*s.part() - 1)}[s.below(8)]
		}
		return v(edge(), edge())
	}
	for {
		w := api.Shape{Kind: kind, Radius: []float64{api.MaxReal, api.MinReal, 0x1p39}[s.below(3)], Points: []api.Vec{place(), place()}}
		switch kind {
		case api.Circle:
			w.Points = w.Points[:1]
		case api.Polygon:
			var l []api.Vec
			for range 3 + s.below(6) {
				l = append(l, place())
			}
			w.Radius = 0
			w.Points, _ = poly.Hull(l)
		}
		if shape.Check(w) == api.OK {
			return w
		}
	}
}

// overGreat hands over n pairs of such shapes of each two kinds; most often a point of the second one lies on the first one's border, so that rounding decides.
func overGreat(n int, f func(a, b api.Shape)) {
	s := source(7)
	for _, kindA := range kinds() {
		for _, kindB := range kinds() {
			for range n {
				a, b := s.great(kindA), s.great(kindB)
				on := moved(b, 0, 0)
				p, q, t := a.Points[0], a.Points[len(a.Points)-1], s.part()
				on.Points[s.below(len(on.Points))] = v(p.X+t*(q.X-p.X), p.Y+t*(q.Y-p.Y))
				if shape.Check(on) == api.OK {
					b = on
				}
				f(a, b)
			}
		}
	}
}

// wrongShapes are such as shape.Check refuses, with each of its errors.
func wrongShapes() []api.Shape {
	return []api.Shape{
		{}, {Kind: 4, Radius: 1, Points: points(0, 0)}, {Kind: 255}, disc(1), disc(1, 0, 0, 1, 1), pill(1, 0, 0), pill(1, 0, 0, 1, 1, 2, 2), convex(0, 0, 1, 0),
		disc(0, 0, 0), disc(-1, 0, 0), disc(short, 0, 0), disc(past, 0, 0), disc(none, 0, 0), disc(inf, 0, 0), disc(1, none, 0), disc(1, 0, past),
		pill(1, 2, 2, 2, 2), pill(1, 0, 0, short, 0), pill(0, 0, 0, 1, 1), pill(1, 0, 0, -inf, 0), convex(0, 2, 2, 2, 2, 0), convex(0, 0, 1, 1, 2, 2), convex(0, 0, 2, 0, none, 2),
		{Kind: api.Polygon, Radius: 1, Points: points(0, 0, 2, 0, 2, 2)}, {Kind: api.Polygon, Radius: none, Points: points(0, 0, 2, 0, 2, 2)}, {Kind: api.Polygon}, {Kind: api.Polygon, Points: make([]api.Vec, 9)},
	}
}

func TestP11_1Refuses(t *testing.T) {
	check := func(a, b api.Shape, want api.Errno) {
		t.Helper()
		n, l, e := touch.Shapes(a, b)
		isErr(t, e, want, "Shapes", a, b)
		if !sameVec(n, api.Vec{}) || len(l) != 0 {
			t.Fatalf("Shapes(%v, %v) is %v %v beside an error", a, b, n, l)
		}
	}
	right := []api.Shape{disc(1, 0, 0), pill(1, 0, 0, 1, 0), convex(0, 0, 2, 0, 2, 2)}
	count := map[api.Errno]int{}
	for _, a := range wrongShapes() {
		want := shape.Check(a)
		count[want]++
		for _, b := range append(wrongShapes(), right...) {
			check(a, b, want)
		}
		for _, b := range right {
			check(b, a, want)
		}
	}
	enough(t, count, 2, api.ErrKind, api.ErrShape, api.ErrReal, api.ErrPoly)
}

func TestP11_1NoTouch(t *testing.T) {
	type both struct {
		a, b    uint8
		touches bool
	}
	count := map[both]int{}
	overPairs(5000, func(_ *source, a, b api.Shape) {
		n, l, e := touch.Shapes(a, b)
		isErr(t, e, api.OK, "Shapes", a, b)
		if len(l) == 0 && !sameVec(n, api.Vec{}) {
			t.Fatalf("Shapes(%v, %v) has the normal %v and no points", a, b, n)
		}
		for _, p := range l {
			if !same(p.Push, 0) || !same(p.Drag, 0) {
				t.Fatalf("Shapes(%v, %v) has impulses: %v", a, b, l)
			}
		}
		count[both{a.Kind, b.Kind, len(l) > 0}]++
	})
	for _, a := range kinds() {
		for _, b := range kinds() {
			enough(t, count, 300, both{a, b, true}, both{a, b, false})
		}
	}
}

// wantNormals goes by P6.4's words.
func wantNormals(l []api.Vec) []api.Vec {
	var normals []api.Vec
	for i, p := range l {
		way := less(l[(i+1)%len(l)], p)
		normals = append(normals, unit(v(way.Y, -way.X)))
	}
	return normals
}

// wantOut is the side with the greatest least distance of points, and that distance: P6.6's words, and P11.4's.
func wantOut(l, points []api.Vec) (int, float64) {
	side, far := -1, 0.0
	for i, n := range wantNormals(l) {
		least := dot(n, less(points[0], l[i]))
		for _, p := range points {
			if d := dot(n, less(p, l[i])); d < least {
				least = d
			}
		}
		if side < 0 || least > far {
			side, far = i, least
		}
	}
	return side, far
}

// left is a place with its number.
type left struct {
	at     api.Vec
	number uint32
}

// wantLeft goes by P9.2's words, the cut having a number.
func wantLeft(l []left, normal api.Vec, far float64, number uint32) []left {
	if len(l) == 0 {
		return nil
	}
	a, b := l[0], l[1]
	u, w := sub(dot(normal, a.at), far), sub(dot(normal, b.at), far)
	cut := left{more(a.at, div(u, sub(u, w)), less(b.at, a.at)), number}
	switch {
	case u > 0 && w > 0:
		return nil
	case u > 0:
		return []left{cut, b}
	case w > 0:
		return []left{a, cut}
	}
	return l
}

// wantOnSide is the half of P11.2 that follows when it is known whose side it is.
func wantOnSide(p []api.Vec, o int, q []api.Vec, owner uint32) (api.Vec, []api.Point) {
	m, from, to := wantNormals(p)[o], p[o], p[(o+1)%len(p)]
	other := 0
	normals := wantNormals(q)
	for i := len(q) - 1; i >= 0; i-- {
		if dot(normals[i], m) <= dot(normals[other], m) {
			other = i
		}
	}
	u := unit(less(to, from))
	l := []left{{q[other], 0}, {q[(other+1)%len(q)], 1}}
	l = wantLeft(l, neg(u), dot(neg(u), from), 2)
	l = wantLeft(l, u, dot(u, to), 3)
	var want []api.Point
	for _, x := range l {
		z := dot(m, less(x.at, from))
		if z > 0 {
			continue
		}
		id := 1<<24*owner + 1<<16*uint32(o) + 1<<8*uint32(other) + x.number
		want = append(want, api.Point{ID: id, At: more(x.at, mul(z, -0.5), m), Depth: sub(0, z)})
	}
	return m, want
}

// wantPolygons goes by P11.2's words.
func wantPolygons(a, b []api.Vec) (n api.Vec, l []api.Point, how string) {
	i, s := wantOut(a, b)
	j, u := wantOut(b, a)
	if s > 0 || u > 0 {
		return api.Vec{}, nil, "apart"
	}
	if s >= u {
		n, l = wantOnSide(a, i, b, 0)
		how = "first"
	} else {
		n, l = wantOnSide(b, j, a, 1)
		n, how = neg(n), "second"
	}
	if len(l) == 0 {
		return api.Vec{}, nil, "none"
	}
	return n, l, how
}

func TestP11_2Polygons(t *testing.T) {
	count, numbers, many := map[string]int{}, map[uint32]int{}, map[int]int{}
	overKinds(100000, api.Polygon, api.Polygon, func(_ *source, a, b api.Shape) {
		n, l, how := wantPolygons(a.Points, b.Points)
		isShapes(t, a, b, n, l)
		count[how]++
		many[len(l)]++
		for _, p := range l {
			numbers[p.ID&0xff]++
		}
	})
	enough(t, count, 5000, "apart", "first", "second")
	enough(t, count, 1, "none")
	enough(t, many, 1000, 1, 2)
	enough(t, numbers, 1000, 0, 1, 2, 3)
}

func TestP11_2Known(t *testing.T) {
	q := rectangle(0, 0, 2, 2)
	flat := rectangle(-2, -1, 2, 1)
	diamond := convex(0, 0.75, 1, 1.75, 0, 2.75, -1, 1.75)
	for i, c := range []struct {
		a, b api.Shape
		n    api.Vec
		l    []api.Point
	}{
		// Of sides as deep the first one of the first shape; its own side 2 lies against side 0.
		{q, q, v(0, -1), []api.Point{spot(512, 2, 1, 2), spot(513, 0, 1, 2)}},
		// They lie side by side: as deep as nought, not minus nought.
		{q, moved(q, 2, 0), v(1, minus), []api.Point{spot(1<<16|3<<8, 2, 2, 0), spot(1<<16|3<<8|1, 2, 0, 0)}},
		{moved(q, 2, 0), q, v(-1, minus), []api.Point{spot(3<<16|1<<8, 2, 0, 0), spot(3<<16|1<<8|1, 2, 2, 0)}},
		{q, moved(q, math.Nextafter(2, 3), 0), api.Vec{}, nil},
		// Corner on corner: what lies ahead is cut.
		{q, moved(q, 2, 2), v(1, minus), []api.Point{spot(1<<16|3<<8|3, 2, 2, 0), spot(1<<16|3<<8|1, 2, 2, 0)}},
		{q, moved(q, 2, -2), v(0, -1), []api.Point{spot(2<<8|3, 2, 0, 0), spot(2<<8|1, 2, 0, 0)}},
		// Both ends are cut, the first one behind, the second one ahead.
		{q, rectangle(-1, 1.5, 5, 9), v(0, 1), []api.Point{spot(2<<16|3, 0, 1.75, 0.5), spot(2<<16|2, 2, 1.75, 0.5)}},
		// The side is the second shape's: the normal still leads from the first one to it.
		{diamond, flat, v(minus, -1), []api.Point{spot(1<<24|2<<16, 0, 0.875, 0.25)}},
		{flat, diamond, v(0, 1), []api.Point{spot(2<<16, 0, 0.875, 0.25)}},
		{moved(diamond, 0, 0.25), flat, v(minus, -1), []api.Point{spot(1<<24|2<<16, 0, 1, 0)}},
		{moved(diamond, 0, 0.25+0x1p-50), flat, api.Vec{}, nil},
		// One within the other: the nearest side tells.
		{flat, rectangle(-1.5, -0.5, 0.5, 0.5), v(0, -1), []api.Point{spot(2<<8, 0.5, -0.25, 1.5), spot(2<<8|1, -1.5, -0.25, 1.5)}},
	} {
		n, l, e := touch.Shapes(c.a, c.b)
		isErr(t, e, api.OK, "Shapes", i)
		if n != c.n || len(l) != len(c.l) {
			t.Fatalf("%d: Shapes is %v %v, not %v %v", i, n, l, c.n, c.l)
		}
		for k, p := range l {
			if p != c.l[k] || math.Signbit(p.Depth) {
				t.Fatalf("%d: Shapes is %v, not %v", i, l, c.l)
			}
		}
		want, wantL, _ := wantPolygons(c.a.Points, c.b.Points)
		isShapes(t, c.a, c.b, want, wantL)
	}
}

// wantPoint goes by P10.1's words.
func wantPoint(a, b, p api.Vec) api.Vec {
	d := less(b, a)
	s := dot(d, d)
	if s <= 0 {
		return a
	}
	t := div(dot(less(p, a), d), s)
	switch {
	case t <= 0:
		t = 0
	case t > 1:
		t = 1
	}
	return more(a, t, d)
}

// wantSides are a core's sides, by chapter 10's words.
func wantSides(s api.Shape) [][2]api.Vec {
	switch s.Kind {
	case api.Circle:
		return [][2]api.Vec{{s.Points[0], s.Points[0]}}
	case api.Capsule:
		return [][2]api.Vec{{s.Points[0], s.Points[1]}}
	}
	var l [][2]api.Vec
	for i, p := range s.Points {
		l = append(l, [2]api.Vec{p, s.Points[(i+1)%len(s.Points)]})
	}
	return l
}

// isIn tells whether a polygon has a place, by P6.5's words.
func isIn(s api.Shape, p api.Vec) bool {
	for _, side := range wantSides(s) {
		if cross(less(side[1], side[0]), less(p, side[0])) < 0 {
			return false
		}
	}
	return s.Kind == api.Polygon
}

// wantCores goes by P10.4's words, under 1 to 3.
func wantCores(a, b api.Shape) api.Near {
	for _, p := range b.Points {
		if isIn(a, p) {
			return api.Near{A: p, B: p}
		}
	}
	for _, p := range a.Points {
		if isIn(b, p) {
			return api.Near{A: p, B: p}
		}
	}
	best := api.Near{Far: inf}
	for _, x := range wantSides(a) {
		for _, y := range wantSides(b) {
			if n := near.Segments(x[0], x[1], y[0], y[1]); n.Far < best.Far {
				best = n
			}
		}
	}
	return best
}

// wantNext is the place of a core next to p, by the chapter's words.
func wantNext(s api.Shape, p api.Vec) api.Vec {
	var all []api.Vec
	for _, side := range wantSides(s) {
		all = append(all, wantPoint(side[0], side[1], p))
	}
	best := all[0]
	for _, at := range all {
		if length(less(p, at)) < length(less(p, best)) {
			best = at
		}
	}
	return best
}

// wantNormal goes by the chapter's words.
func wantNormal(x, y api.Vec) api.Vec {
	n := unit(less(y, x))
	if s := dot(n, n); s < 1-0x1p-40 || s > 1+0x1p-40 {
		return v(0, 1)
	}
	return n
}

// wantApart goes by P11.3's words.
func wantApart(a, b api.Shape, x, y api.Vec, g float64) (api.Vec, []api.Point) {
	ra, rb := a.Radius, b.Radius
	r := add(ra, rb)
	if g > r {
		return api.Vec{}, nil
	}
	n := wantNormal(x, y)
	l := []api.Point{{At: middle(more(x, ra, n), more(y, -rb, n)), Depth: sub(r, g)}}
	for i, e := range a.Points {
		if z := wantNext(b, e); a.Kind == api.Capsule && e != x && length(less(z, e)) <= r {
			if h := dot(n, less(z, e)); sub(r, h) >= 0 {
				l = append(l, api.Point{ID: uint32(1 + i), At: middle(more(e, ra, n), more(e, sub(h, rb), n)), Depth: sub(r, h)})
			}
		}
	}
	for i, e := range b.Points {
		if z := wantNext(a, e); b.Kind == api.Capsule && e != y && length(less(z, e)) <= r {
			if h := dot(n, less(e, z)); sub(r, h) >= 0 {
				l = append(l, api.Point{ID: uint32(3 + i), At: middle(more(e, -rb, n), more(e, sub(ra, h), n)), Depth: sub(r, h)})
			}
		}
	}
	return n, l
}

// wantMeet goes by P11.4's words.
func wantMeet(a, b api.Shape, x api.Vec) (api.Vec, []api.Point) {
	if a.Kind != api.Polygon && b.Kind != api.Polygon {
		return v(0, 1), []api.Point{{At: x, Depth: add(a.Radius, b.Radius)}}
	}
	p, q := a, b
	if b.Kind == api.Polygon {
		p, q = b, a
	}
	k, _ := wantOut(p.Points, q.Points)
	m, from, r := wantNormals(p.Points)[k], p.Points[k], q.Radius
	var l []api.Point
	for i, e := range q.Points {
		z := dot(m, less(e, from))
		if depth := sub(r, z); depth >= 0 {
			l = append(l, api.Point{ID: uint32(i), At: middle(more(e, -r, m), more(e, -z, m)), Depth: depth})
		}
	}
	if len(l) == 0 {
		return api.Vec{}, nil
	}
	if b.Kind == api.Polygon {
		m = neg(m)
	}
	return m, l
}

// wantRound is what P11.3 or P11.4 say, and whether the cores are apart.
func wantRound(a, b api.Shape) (api.Vec, []api.Point, bool) {
	g := wantCores(a, b)
	if g.Far > 0 {
		n, l := wantApart(a, b, g.A, g.B, g.Far)
		return n, l, true
	}
	n, l := wantMeet(a, b, g.A)
	return n, l, false
}

// What is as great as may be goes by the same rules; there rounding leaves some without points.
func TestP11_1Great(t *testing.T) {
	count := map[string]int{}
	overGreat(10000, func(a, b api.Shape) {
		if a.Kind == api.Polygon && b.Kind == api.Polygon {
			n, l, how := wantPolygons(a.Points, b.Points)
			isShapes(t, a, b, n, l)
			count["polygons, "+how]++
			return
		}
		n, l, apart := wantRound(a, b)
		isShapes(t, a, b, n, l)
		switch {
		case apart:
			count["cores apart"]++
		case len(l) == 0:
			count["cores meet, none"]++
		default:
			count["cores meet"]++
		}
	})
	enough(t, count, 50, "polygons, apart", "polygons, first", "polygons, second", "cores apart", "cores meet", "cores meet, none")
}

func TestP11_3Apart(t *testing.T) {
	type seen struct {
		a, b uint8
		what string
		n    int
	}
	count := map[seen]int{}
	overRound(30000, func(_ *source, a, b api.Shape) {
		n, l, apart := wantRound(a, b)
		if !apart {
			return
		}
		isShapes(t, a, b, n, l)
		count[seen{a.Kind, b.Kind, "points", min(len(l), 3)}]++
		for _, p := range l {
			count[seen{a.Kind, b.Kind, "ID", int(p.ID)}]++
		}
	})
	for _, a := range kinds() {
		for _, b := range kinds() {
			if a == api.Polygon && b == api.Polygon {
				continue
			}
			enough(t, count, 500, seen{a, b, "points", 0}, seen{a, b, "points", 1}, seen{a, b, "ID", 0})
			if a == api.Capsule {
				enough(t, count, 200, seen{a, b, "ID", 1}, seen{a, b, "ID", 2}, seen{a, b, "points", 2})
			}
			if b == api.Capsule {
				enough(t, count, 200, seen{a, b, "ID", 3}, seen{a, b, "ID", 4}, seen{a, b, "points", 2})
			}
		}
	}
	enough(t, count, 100, seen{api.Capsule, api.Capsule, "points", 3})
}

func TestP11_3Known(t *testing.T) {
	floor := rectangle(-3, -2, 3, 0)
	for i, c := range []struct {
		a, b api.Shape
		n    api.Vec
		l    []api.Point
	}{
		// Just so far that they touch, and the least farther.
		{disc(1, 0, 0), disc(2, 3, 0), v(1, 0), []api.Point{spot(0, 1, 0, 0)}}, {disc(1, 0, 0), disc(2, math.Nextafter(3, 4), 0), api.Vec{}, nil},
		{disc(1, 0, 1), floor, v(0, -1), []api.Point{spot(0, 0, 0, 0)}}, {floor, disc(1, 0, 1), v(0, 1), []api.Point{spot(0, 0, 0, 0)}}, {disc(1, 0, 1+0x1p-50), floor, api.Vec{}, nil},
		{disc(5, 7, 3), floor, v(-0.8, -0.6), []api.Point{spot(0, 3, 0, 0)}}, {disc(1, 6, 4), floor, api.Vec{}, nil},
		// A capsule that lies flat is held at both ends, one that stands at its foot.
		{pill(1, -2, 1, 2, 1), floor, v(0, -1), []api.Point{spot(0, -2, 0, 0), spot(2, 2, 0, 0)}}, {pill(1, -2, 0.5, -2, 4), floor, v(0, -1), []api.Point{spot(0, -2, -0.25, 0.5)}},
		{floor, pill(1, -2, 0.5, 2, 0.5), v(0, 1), []api.Point{spot(0, -2, -0.25, 0.5), spot(4, 2, -0.25, 0.5)}}, {floor, pill(1, -2, 4, -2, 0.5), v(0, 1), []api.Point{spot(0, -2, -0.25, 0.5)}},
		// Aslant: the other end is less deep, or out of reach.
		{pill(1, -2, 0.75, 2, 0.5), floor, v(0, -1), []api.Point{spot(0, 2, -0.25, 0.5), spot(1, -2, -0.125, 0.25)}}, {pill(1, -2, 0.5, 2, 0.75), floor, v(0, -1), []api.Point{spot(0, -2, -0.25, 0.5), spot(2, 2, -0.125, 0.25)}}, {pill(1, -2, 0.5, 2, 1), floor, v(0, -1), []api.Point{spot(0, -2, -0.25, 0.5), spot(2, 2, 0, 0)}},
		{pill(1, -2, 0.5, 2, math.Nextafter(1, 2)), floor, v(0, -1), []api.Point{spot(0, -2, -0.25, 0.5)}},
		// It juts out: the side to the right comes first, so the nearest place lies over its corner; the end is as deep as the corner, or out of reach.
		{pill(1, 2, 0.5, 3.5, 0.5), floor, v(0, -1), []api.Point{spot(0, 3, -0.25, 0.5), spot(1, 2, -0.25, 0.5), spot(2, 3.5, -0.25, 0.5)}}, {pill(1, 2, 0.5, 4, 0.5), floor, v(0, -1), []api.Point{spot(0, 3, -0.25, 0.5), spot(1, 2, -0.25, 0.5)}},
		// Neither end of the first one is the nearest place: both of the second one are asked, and both of the first one.
		{pill(1, -1, 0, 1, 0), pill(0.5, 0, 1, 0, 9), v(0, 1), []api.Point{spot(0, 0, 0.75, 0.5), spot(1, -1, 0.75, 0.5), spot(2, 1, 0.75, 0.5)}},
		{pill(0.5, 0, 9, 0, 1), pill(1, -1, 0, 1, 0), v(0, -1), []api.Point{spot(0, 0, 0.75, 0.5), spot(3, -1, 0.75, 0.5), spot(4, 1, 0.75, 0.5)}},
		// Two that lie along one another.
		{pill(0.5, 0, 0, 2, 0), pill(0.5, 2, 0.75, 0, 0.75), v(0, 1), []api.Point{spot(0, 0, 0.375, 0.25), spot(2, 2, 0.375, 0.25), spot(3, 2, 0.375, 0.25)}},
		// No way of the length 1 comes of squares that are subnormal: Up.
		{disc(1, 0, 0), disc(1, 0x1.6p-537, 0), v(0, 1), []api.Point{spot(0, 0x1.6p-538, 0, 2)}}, {disc(1, 0, 0), disc(2, 0, -0x1.6p-537), v(0, 1), []api.Point{spot(0, 0, -0.5, 3)}},
	} {
		n, l, e := touch.Shapes(c.a, c.b)
		isErr(t, e, api.OK, "Shapes", i)
		want, wantL, apart := wantRound(c.a, c.b)
		if !apart {
			t.Fatalf("%d: the cores are not apart", i)
		}
		isShapes(t, c.a, c.b, want, wantL)
		if n != c.n || !slices.Equal(l, c.l) {
			t.Fatalf("%d: Shapes is %v %v, not %v %v", i, n, l, c.n, c.l)
		}
	}
}

// An end is passed over, if it is equal to the nearest place, whatever signs their noughts have.
func TestP11_3EqualEnds(t *testing.T) {
	tip := convex(-1, 0, -2, 0.5, -2, -0.5)
	for _, c := range []struct {
		a, b api.Shape
		ids  []uint32
	}{
		{tip, pill(2, minus, 0, 8, 0), []uint32{0}}, {tip, pill(2, 8, 0, minus, 0), []uint32{0}}, {pill(2, minus, 0, 8, 0), tip, []uint32{0}},
		{tip, pill(2, minus, 0, 0.5, 0), []uint32{0, 4}}, {tip, pill(2, 0.5, 0, minus, minus), []uint32{0, 3}}, {pill(2, minus, minus, 0.5, 0), tip, []uint32{0, 2}}, {pill(2, 0.5, 0, minus, 0), tip, []uint32{0, 1}},
	} {
		n, l, _ := wantRound(c.a, c.b)
		isShapes(t, c.a, c.b, n, l)
		_, got, _ := touch.Shapes(c.a, c.b)
		var ids []uint32
		for _, p := range got {
			ids = append(ids, p.ID)
		}
		if !slices.Equal(ids, c.ids) {
			t.Errorf("Shapes(%v, %v) has the IDs %v, not %v", c.a, c.b, ids, c.ids)
		}
	}
}

func TestP11_4Meet(t *testing.T) {
	type seen struct {
		a, b uint8
		id   int
	}
	count := map[seen]int{}
	overRound(30000, func(_ *source, a, b api.Shape) {
		n, l, apart := wantRound(a, b)
		if apart {
			return
		}
		isShapes(t, a, b, n, l)
		for _, p := range l {
			count[seen{a.Kind, b.Kind, int(p.ID)}]++
		}
	})
	for _, a := range kinds() {
		for _, b := range kinds() {
			if a == api.Polygon && b == api.Polygon {
				continue
			}
			enough(t, count, 500, seen{a, b, 0})
			if a+b == api.Capsule+api.Polygon {
				enough(t, count, 500, seen{a, b, 1})
			}
		}
	}
}

func TestP11_4Known(t *testing.T) {
	q := rectangle(-1, -1, 1, 1)
	for i, c := range []struct {
		a, b api.Shape
		n    api.Vec
		l    []api.Point
	}{
		// Neither is a polygon: Up, at the first one's place.
		{disc(1, 3, 4), disc(2, 3, 4), v(0, 1), []api.Point{spot(0, 3, 4, 3)}}, {disc(1, 0, 0), disc(1, 0x1p-600, 0), v(0, 1), []api.Point{spot(0, 0, 0, 2)}}, {disc(1, 0x1p-600, 0), disc(1, 0, 0), v(0, 1), []api.Point{spot(0, 0x1p-600, 0, 2)}},
		{pill(1, 0, 0, 4, 0), disc(1, 2, 0), v(0, 1), []api.Point{spot(0, 2, 0, 2)}}, {pill(1, 0, 0, 4, 0), pill(0.5, 1, -1, 1, 3), v(0, 1), []api.Point{spot(0, 1, 0, 1.5)}}, {pill(1, 0, 0, 4, 0), pill(1, 2, 0, 9, 0), v(0, 1), []api.Point{spot(0, 4, 0, 2)}},
		// Of sides as deep the first one; on a side, on a corner.
		{disc(0.5, 0, 0), q, v(0, 1), []api.Point{spot(0, 0, -0.25, 1.5)}}, {q, disc(0.5, 0, 0), v(0, -1), []api.Point{spot(0, 0, -0.25, 1.5)}},
		{q, disc(0.5, 1, 0.25), v(1, 0), []api.Point{spot(0, 0.75, 0.25, 0.5)}}, {disc(0.5, 1, 0.25), q, v(-1, 0), []api.Point{spot(0, 0.75, 0.25, 0.5)}}, {q, disc(0.5, 1, 1), v(1, 0), []api.Point{spot(0, 0.75, 1, 0.5)}},
		{q, disc(0.5, -0.75, 0.5), v(-1, 0), []api.Point{spot(0, -0.625, 0.5, 0.75)}},
		// Straight through: neither end lies in it, both are as deep below the first side.
		{pill(0.5, -5, 0, 5, 0), q, v(0, 1), []api.Point{spot(0, -5, -0.25, 1.5), spot(1, 5, -0.25, 1.5)}}, {q, pill(0.5, 5, 0.5, -5, 0.5), v(0, 1), []api.Point{spot(0, 5, 0.5, 1), spot(1, -5, 0.5, 1)}},
		// The other end is just in reach of the radius, and the least farther out.
		{q, pill(0.5, 0, 0.75, 0, 1.5), v(0, 1), []api.Point{spot(0, 0, 0.625, 0.75), spot(1, 0, 1, 0)}}, {q, pill(0.5, 0, 0.75, 0, math.Nextafter(1.5, 2)), v(0, 1), []api.Point{spot(0, 0, 0.625, 0.75)}},
		{pill(0.5, 0, 9, 0, 0.75), q, v(0, -1), []api.Point{spot(1, 0, 0.625, 0.75)}}, {q, pill(0.5, 0, 9, 0, 1), v(0, 1), []api.Point{spot(1, 0, 0.75, 0.5)}},
		// Over a corner: the least of both ends' distances is what a side goes by.
		{q, pill(0.25, 0.5, 1.5, 1.5, 0), v(1, 0), []api.Point{spot(0, 0.625, 1.5, 0.75)}}, {q, pill(0.25, 1.5, 0.5, 0, 1.5), v(0, 1), []api.Point{spot(0, 1.5, 0.625, 0.75)}}, {pill(0.25, 1.5, 0, 0.75, 1.25), q, v(-1, 0), []api.Point{spot(1, 0.75, 1.25, 0.5)}},
	} {
		n, l, e := touch.Shapes(c.a, c.b)
		isErr(t, e, api.OK, "Shapes", i)
		want, wantL, apart := wantRound(c.a, c.b)
		if apart {
			t.Fatalf("%d: the cores are apart", i)
		}
		isShapes(t, c.a, c.b, want, wantL)
		if n != c.n || !slices.Equal(l, c.l) {
			t.Fatalf("%d: Shapes is %v %v, not %v %v", i, n, l, c.n, c.l)
		}
	}
}

// frame is one that may be.
func (s *source) frame() api.Frame {
	f := api.Frame{At: s.place(), Turn: 1}
	if s.below(3) > 0 {
		a := 2 * math.Pi * s.part()
		f.Turn = complex(math.Cos(a), math.Sin(a))
	}
	return f
}

// wrongPairs are such as no touch has.
func wrongPairs() []api.Pair {
	return []api.Pair{
		{}, {A: 3, B: 3}, {A: -1, B: 0}, {A: 0, B: -1}, {A: -1, B: -2}, {A: math.MinInt, B: 4}, {A: 0, B: 1, PartA: -1}, {A: 0, B: 1, PartB: -1},
		{A: 0, B: 1, PartA: 8}, {A: 0, B: 1, PartB: 8}, {A: 0, B: 1, PartA: math.MaxInt}, {A: 0, B: 1, PartB: math.MinInt}, {A: 2, B: 2, PartA: 1, PartB: 2},
	}
}

func rightPairs() []api.Pair {
	return []api.Pair{{B: 1}, {A: 1}, {A: 5, B: 2, PartA: 7, PartB: 0}, {A: 0, B: math.MaxInt, PartB: 7}, {A: math.MaxInt, B: 0, PartA: 7, PartB: 7}}
}

func isParts(t *testing.T, p api.Pair, a, b api.Part, f, g api.Frame) bool {
	t.Helper()
	got, is, e := touch.Parts(p, a, b, f, g)
	isErr(t, e, api.OK, "Parts", p, a, b, f, g)
	x, notX := shape.Put(a.Shape, f)
	y, notY := shape.Put(b.Shape, g)
	var want api.Touch
	if notX == api.OK && notY == api.OK {
		n, l, _ := touch.Shapes(x, y)
		if len(l) > 0 {
			want = api.Touch{Pair: p, Sensor: a.Sensor || b.Sensor, Normal: n, Points: l}
		}
	}
	isTouch(t, got, want, "Parts", p, a, b, f, g)
	if is != (len(want.Points) > 0) {
		t.Fatalf("Parts%v is %v", []any{p, a, b, f, g}, is)
	}
	return is
}

func TestP11_5Parts(t *testing.T) {
	count := map[bool]int{}
	overPairs(3000, func(s *source, a, b api.Shape) {
		x, y := api.Part{Shape: a, Sensor: s.below(4) == 0}, api.Part{Shape: b, Sensor: s.below(4) == 0}
		f := s.frame()
		count[isParts(t, rightPairs()[s.below(5)], x, y, f, f)]++
		count[isParts(t, rightPairs()[s.below(5)], x, y, f, s.frame())]++
	})
	enough(t, count, 5000, true, false)
}

func TestP11_5PartsKnown(t *testing.T) {
	a, b := api.Part{Shape: disc(1, 0, 1), Density: 3, Friction: none, Layer: 1}, api.Part{Shape: pill(0.5, 0, 0, 2, 0), Bounce: inf, Mask: 7}
	// The circle's middle comes to lie at (1, 2), the capsule from (1, 3.25) to (1, 5.25).
	f, g := api.Frame{At: v(2, 2), Turn: 1i}, api.Frame{At: v(1, 3.25), Turn: 1i}
	for i := range 4 {
		a.Sensor, b.Sensor = i&1 > 0, i&2 > 0
		want := api.Touch{Pair: api.Pair{A: 7, PartA: 3, B: 2, PartB: 1}, Sensor: i > 0, Normal: v(0, 1), Points: []api.Point{spot(0, 1, 2.875, 0.25)}}
		got, is, e := touch.Parts(want.Pair, a, b, f, g)
		isErr(t, e, api.OK, "Parts", i)
		isTouch(t, got, want, "Parts", i)
		if !is {
			t.Errorf("Parts %d touch not", i)
		}
		g.At.Y = 3.75
		got, is, e = touch.Parts(want.Pair, a, b, f, g)
		isErr(t, e, api.OK, "Parts", i)
		isTouch(t, got, api.Touch{}, "Parts", i)
		if is {
			t.Errorf("Parts %d touch", i)
		}
		g.At.Y = 3.25
	}
}

func TestP11_5PartsThatDoNotLie(t *testing.T) {
	right, home := api.Part{Shape: disc(1, 0, 0), Sensor: true}, frame.Home()
	small := api.Part{Shape: scaled(rectangle(0, 0, 2, 2), 0x1p-29)}
	check := func(a, b api.Part, f, g api.Frame) {
		t.Helper()
		for _, p := range rightPairs() {
			if isParts(t, p, a, b, f, g) || isParts(t, p, b, a, g, f) {
				t.Fatalf("Parts%v touch", []any{p, a, b, f, g})
			}
		}
	}
	for _, w := range wrongShapes() {
		check(api.Part{Shape: w}, right, home, home)
		check(api.Part{Shape: w}, api.Part{Shape: w}, home, home)
	}
	for _, at := range []api.Vec{v(0x1p50, 0), v(none, 0), v(0, -inf), v(past, past)} {
		check(right, right, api.Frame{At: at, Turn: 1}, home)
		check(right, right, api.Frame{At: at, Turn: 1}, api.Frame{At: at, Turn: 1})
	}
	for _, turn := range []complex128{0, 2, complex(none, 0), complex(1, inf)} {
		check(right, right, api.Frame{Turn: turn}, home)
	}
	// By rounding its points fall together, far away.
	check(small, right, api.Frame{At: v(0x1p30, 0), Turn: 1}, api.Frame{At: v(0x1p30, 0), Turn: 1})
}

func TestP11_5PartsRefuse(t *testing.T) {
	right := api.Part{Shape: disc(1, 0, 0)}
	for _, p := range wrongPairs() {
		for _, b := range []api.Part{right, {}, {Shape: disc(1, 9, 9)}} {
			for _, f := range []api.Frame{frame.Home(), {}} {
				got, is, e := touch.Parts(p, right, b, f, f)
				isErr(t, e, api.ErrArg, "Parts", p)
				isTouch(t, got, api.Touch{}, "Parts", p)
				if is {
					t.Errorf("Parts%v touch beside an error", p)
				}
			}
		}
	}
}

// rightTouch is one that may be.
func rightTouch() api.Touch {
	return api.Touch{
		Pair: api.Pair{A: 4, PartA: 1, B: 2, PartB: 3}, Sensor: true, Normal: v(0.6, -0.8),
		Points: []api.Point{{ID: 7, At: v(1, 2), Depth: 0.5, Push: 3, Drag: -2}, {ID: 0, At: v(minus, 4), Push: minus}, {ID: math.MaxUint32, Depth: 1}},
	}
}

// touchWith is one that may be, changed.
func touchWith(change func(t *api.Touch)) api.Touch {
	t := rightTouch()
	change(&t)
	return t
}

// pointWith has its second point changed.
func pointWith(change func(p *api.Point)) api.Touch {
	return touchWith(func(t *api.Touch) { change(&t.Points[1]) })
}

// many has n points.
func many(n int) api.Touch {
	return touchWith(func(t *api.Touch) {
		t.Points = nil
		for i := range n {
			t.Points = append(t.Points, api.Point{ID: uint32(5 * i)})
		}
	})
}

// normalWith has another normal.
func normalWith(n api.Vec) api.Touch { return touchWith(func(t *api.Touch) { t.Normal = n }) }

func wrongTouches() []api.Touch {
	l := []api.Touch{{}, many(0), many(9), many(64)}
	for _, p := range wrongPairs() {
		l = append(l, touchWith(func(t *api.Touch) { t.Pair = p }))
	}
	low, high := math.Nextafter(1-0x1p-41, 0), math.Nextafter(1+0x1p-41, 2)
	for _, n := range []api.Vec{{}, v(1, 1), v(low, 0), v(0, -high), v(high, 0), v(0, low), v(none, 1), v(1, none), v(inf, 0), v(0, -inf), v(0.5, 0.5), v(2, 0), v(0x1p600, 0)} {
		l = append(l, normalWith(n))
	}
	over := math.Nextafter(0x1p42, inf)
	for _, f := range []float64{over, -over, none, inf, -inf} {
		l = append(l, pointWith(func(p *api.Point) { p.At.X = f }), pointWith(func(p *api.Point) { p.At.Y = f }), pointWith(func(p *api.Point) { p.Depth = f }))
	}
	for _, f := range []float64{past, -past, none, inf, -inf} {
		l = append(l, pointWith(func(p *api.Point) { p.Push = f }), pointWith(func(p *api.Point) { p.Drag = f }))
	}
	for _, f := range []float64{-0x1p-1074, -1} {
		l = append(l, pointWith(func(p *api.Point) { p.Depth = f }))
	}
	// Two of one ID, next to one another or not, the first or the last ones.
	for _, id := range []uint32{7, math.MaxUint32} {
		l = append(l, pointWith(func(p *api.Point) { p.ID = id }))
	}
	return append(l, touchWith(func(t *api.Touch) { t.Points[2].ID = 7 }), touchWith(func(t *api.Touch) { t.Points = append(t.Points, t.Points[0]) }))
}

func rightTouches() []api.Touch {
	l := []api.Touch{rightTouch(), many(1), many(8)}
	for _, p := range rightPairs() {
		l = append(l, touchWith(func(t *api.Touch) { t.Pair = p }))
	}
	for _, n := range []api.Vec{v(1, 0), v(minus, -1), v(1-0x1p-41, 0), v(0, 1+0x1p-41), v(0, 0x1p-41-1), v(-1-0x1p-41, minus), v(math.Sqrt(0.5), -math.Sqrt(0.5))} {
		l = append(l, normalWith(n))
	}
	for _, f := range []float64{0x1p42, -0x1p42, minus, 0x1p-1074} {
		l = append(l, pointWith(func(p *api.Point) { p.At.X = f }), pointWith(func(p *api.Point) { p.At.Y = f }), pointWith(func(p *api.Point) { p.Depth = max(f, minus) }))
	}
	for _, f := range []float64{api.MaxReal, -api.MaxReal, minus} {
		l = append(l, pointWith(func(p *api.Point) { p.Push = f }), pointWith(func(p *api.Point) { p.Drag = f }))
	}
	return l
}

func TestP11_6Keep(t *testing.T) {
	now, old := rightTouch(), rightTouch()
	old.Sensor, old.Normal = false, v(1, 0)
	old.Points = []api.Point{{ID: 3, Push: 5}, {ID: math.MaxUint32, At: v(9, 9), Depth: 9, Push: minus, Drag: -api.MaxReal}, {ID: 7, Push: -8, Drag: 6}}
	want := rightTouch()
	want.Points[0].Push, want.Points[0].Drag = -8, 6
	want.Points[2].Push, want.Points[2].Drag = minus, -api.MaxReal
	got, e := touch.Keep(now, old)
	isErr(t, e, api.OK, "Keep")
	isTouch(t, got, want, "Keep")
	for _, one := range rightTouches() {
		got, e := touch.Keep(one, one)
		isErr(t, e, api.OK, "Keep", one)
		isTouch(t, got, one, "Keep", one)
		// Of an older one without any of its numbers nothing comes.
		other := one
		other.Points = []api.Point{{ID: 1, Push: 1, Drag: 1}}
		got, e = touch.Keep(one, other)
		isErr(t, e, api.OK, "Keep", one)
		isTouch(t, got, one, "Keep", one)
	}
}

func TestP11_6KeepRefuses(t *testing.T) {
	check := func(now, old api.Touch) {
		t.Helper()
		got, e := touch.Keep(now, old)
		isErr(t, e, api.ErrArg, "Keep", now, old)
		isTouch(t, got, api.Touch{}, "Keep", now, old)
	}
	for _, w := range wrongTouches() {
		right := rightTouch()
		check(w, right)
		check(right, w)
		check(w, w)
	}
	for _, p := range []api.Pair{{A: 5, PartA: 1, B: 2, PartB: 3}, {A: 4, PartA: 0, B: 2, PartB: 3}, {A: 4, PartA: 1, B: 3, PartB: 3}, {A: 4, PartA: 1, B: 2, PartB: 2}, {A: 2, PartA: 3, B: 4, PartB: 1}} {
		other := touchWith(func(t *api.Touch) { t.Pair = p })
		isErr(t, touch.Check(other), api.OK, "Check", other)
		check(rightTouch(), other)
		check(other, rightTouch())
	}
}

func TestP11_7Check(t *testing.T) {
	for i, w := range wrongTouches() {
		isErr(t, touch.Check(w), api.ErrArg, "Check", i, w)
	}
	for i, w := range rightTouches() {
		isErr(t, touch.Check(w), api.OK, "Check", i, w)
	}
}

func TestP11_7Turned(t *testing.T) {
	want := rightTouch()
	want.Pair, want.Normal = api.Pair{A: 2, PartA: 3, B: 4, PartB: 1}, v(-0.6, 0.8)
	got, e := touch.Turned(rightTouch())
	isErr(t, e, api.OK, "Turned")
	isTouch(t, got, want, "Turned")
	for _, one := range rightTouches() {
		back, e := touch.Turned(one)
		isErr(t, e, api.OK, "Turned", one)
		if !sameVec(back.Normal, neg(one.Normal)) || back.Pair.A != one.Pair.B || back.Pair.PartA != one.Pair.PartB {
			t.Errorf("Turned(%v) is %v", one, back)
		}
		again, e := touch.Turned(back)
		isErr(t, e, api.OK, "Turned", back)
		isTouch(t, again, one, "Turned twice")
	}
	for _, w := range wrongTouches() {
		got, e := touch.Turned(w)
		isErr(t, e, api.ErrArg, "Turned", w)
		isTouch(t, got, api.Touch{}, "Turned", w)
	}
}

// roomy is a list with spare room, which must stay as it is too.
func roomy[T any](l []T) (list, whole []T) {
	whole = make([]T, len(l)+4)
	copy(whole, l)
	return whole[:len(l)], slices.Clone(whole)
}

// spoil changes a list and its spare room.
func spoil(l []api.Point) {
	l = l[:cap(l)]
	for i := range l {
		l[i] = spot(99, none, none, none)
	}
}

func TestP11_8ShapesRead(t *testing.T) {
	overPairs(1000, func(_ *source, a, b api.Shape) {
		var keptA, keptB []api.Vec
		a.Points, keptA = roomy(a.Points)
		b.Points, keptB = roomy(b.Points)
		_, l, _ := touch.Shapes(a, b)
		_, again, _ := touch.Shapes(a, b)
		kept := slices.Clone(again)
		spoil(l)
		got, _, _ := touch.Parts(api.Pair{B: 1}, api.Part{Shape: a}, api.Part{Shape: b}, frame.Home(), frame.Home())
		spoil(got.Points)
		if !slices.EqualFunc(a.Points[:cap(a.Points)], keptA, sameVec) || !slices.EqualFunc(b.Points[:cap(b.Points)], keptB, sameVec) {
			t.Fatalf("of %v and %v something was changed", keptA, keptB)
		}
		if _, next, _ := touch.Shapes(a, b); !samePoints(again, kept) || !samePoints(next, kept) {
			t.Fatalf("Shapes(%v, %v) is %v, %v, not %v, after an answer was changed", a, b, again, next, kept)
		}
	})
}

func TestP11_8TouchesRead(t *testing.T) {
	for _, one := range rightTouches() {
		now, old := one, one
		var kept []api.Point
		now.Points, kept = roomy(one.Points)
		old.Points, _ = roomy(one.Points)
		keep, _ := touch.Keep(now, old)
		same, _ := touch.Keep(now, now)
		turned, _ := touch.Turned(now)
		touch.Check(now)
		spoil(keep.Points)
		spoil(turned.Points)
		if !samePoints(now.Points[:cap(now.Points)], kept) || !samePoints(old.Points[:cap(old.Points)], kept) {
			t.Fatalf("of %v something was changed", one)
		}
		spoil(now.Points)
		spoil(old.Points)
		if !samePoints(same.Points, one.Points) {
			t.Fatalf("Keep of %v has changed with what was handed in", one)
		}
	}
}

func TestP11_9May(t *testing.T) {
	home, most := frame.Home(), map[int]int{}
	check := func(a, b api.Shape) {
		t.Helper()
		got, is, e := touch.Parts(api.Pair{A: 3, B: 1}, api.Part{Shape: a}, api.Part{Shape: b}, home, home)
		isErr(t, e, api.OK, "Parts", a, b)
		if is && touch.Check(got) != api.OK {
			t.Fatalf("Parts(%v, %v) may not be: %v", a, b, got)
		}
		most[len(got.Points)]++
	}
	overPairs(10000, func(_ *source, a, b api.Shape) { check(a, b) })
	overGreat(10000, check)
	// So near that the squares are subnormal.
	s := source(7)
	for range 10000 {
		check(disc(1, 0, 0), disc(s.radius(), math.Ldexp(s.part(), -500-s.below(60)), math.Ldexp(s.part(), -500-s.below(60))))
	}
	enough(t, most, 1000, 0, 1, 2, 3)
	for n := range most {
		if n > 5 {
			t.Errorf("there are %d points", n)
		}
	}
}

func TestP11_9Over(t *testing.T) {
	count := map[bool]int{}
	overRound(15000, func(_ *source, a, b api.Shape) {
		if !isSmall(a) || !isSmall(b) {
			return
		}
		over, e := near.Over(a, b)
		isErr(t, e, api.OK, "Over", a, b)
		_, there, _ := touch.Shapes(a, b)
		_, back, _ := touch.Shapes(b, a)
		if (len(there) > 0) != over || (len(back) > 0) != over {
			t.Fatalf("Shapes(%v, %v) is %v, back %v; Over %v", a, b, there, back, over)
		}
		if over && wantCores(a, b).Far > 0 && !same(there[0].Depth, back[0].Depth) {
			t.Fatalf("Shapes(%v, %v) is %v deep, back %v", a, b, there[0].Depth, back[0].Depth)
		}
		count[over]++
	})
	enough(t, count, 20000, true, false)
}

func TestP11_10PowersOfTwo(t *testing.T) {
	count := map[int]int{}
	check := func(a, b api.Shape, k int) {
		t.Helper()
		by := math.Ldexp(1, k)
		great, other := scaled(a, by), scaled(b, by)
		if shape.Check(great) != api.OK || shape.Check(other) != api.OK {
			return
		}
		n, l, _ := touch.Shapes(a, b)
		for i := range l {
			l[i].At, l[i].Depth = scaledVec(l[i].At, by), l[i].Depth*by
		}
		isShapes(t, great, other, n, l)
		count[min(max(k, -9), 9)]++
	}
	overPairs(10000, func(s *source, a, b api.Shape) { check(a, b, s.below(17)-8) })
	overPairs(2000, func(s *source, a, b api.Shape) { check(a, b, []int{-10, -20, 10, 20, 30}[s.below(5)]) })
	for k := -9; k <= 9; k++ {
		enough(t, count, 1000, k)
	}
}

func TestExamples(t *testing.T) {
	q := rectangle(-1, -1, 1, 1)
	for i, c := range []struct {
		a, b api.Shape
		n    api.Vec
		l    []api.Point
	}{
		{disc(1, 0, 0), disc(1, 1.5, 0), v(1, 0), []api.Point{spot(0, 0.75, 0, 0.5)}},
		{disc(1, 0, 0), disc(1, 2, 0), v(1, 0), []api.Point{spot(0, 1, 0, 0)}},
		{disc(1, 0, 0), disc(1, 2.5, 0), v(0, 0), nil},
		{disc(1, 0, 0), disc(1, 0, 0), v(0, 1), []api.Point{spot(0, 0, 0, 2)}},
		{disc(1, 0, 1.75), q, v(0, -1), []api.Point{spot(0, 0, 0.875, 0.25)}},
		{disc(1, 0, 0.5), q, v(0, -1), []api.Point{spot(0, 0, 0.25, 1.5)}},
		{q, rectangle(-0.5, 0.5, 0.5, 1.5), v(0, 1), []api.Point{spot(131072, -0.5, 0.75, 0.5), spot(131073, 0.5, 0.75, 0.5)}},
		{pill(0.5, -1, 0, 1, 0), rectangle(-3, -2, 3, -0.25), v(0, -1), []api.Point{spot(0, -1, -0.375, 0.25), spot(2, 1, -0.375, 0.25)}},
		{pill(0.5, 0, 0, 2, 0), pill(0.5, 0, 0.75, 2, 0.75), v(0, 1), []api.Point{spot(0, 0, 0.375, 0.25), spot(2, 2, 0.375, 0.25), spot(4, 2, 0.375, 0.25)}},
	} {
		n, l, e := touch.Shapes(c.a, c.b)
		isErr(t, e, api.OK, "Shapes", i)
		if n != c.n || !slices.Equal(l, c.l) {
			t.Errorf("%d: Shapes is %v %v, not %v %v", i, n, l, c.n, c.l)
		}
	}
}

func TestExamplesOfTouches(t *testing.T) {
	part, far := api.Part{Shape: disc(1, 0, 0)}, api.Frame{At: v(0x1p50, 0), Turn: 1}
	_, is, e := touch.Parts(api.Pair{B: 1}, part, part, frame.Home(), far)
	isErr(t, e, api.OK, "Parts")
	if is {
		t.Error("what lies 2^50 away touches")
	}
	now := api.Touch{Pair: api.Pair{B: 1}, Normal: v(0, 1), Points: []api.Point{{ID: 0}}}
	old := now
	old.Points = []api.Point{{ID: 0, Push: 2}, {ID: 1}}
	got, e := touch.Keep(now, old)
	isErr(t, e, api.OK, "Keep")
	if len(got.Points) != 1 || got.Points[0].Push != 2 {
		t.Errorf("Keep is %v", got)
	}
	for _, change := range []func(t *api.Touch){
		func(t *api.Touch) { t.Points = nil }, func(t *api.Touch) { t.Points = []api.Point{{}, {}} }, func(t *api.Touch) { t.Normal = v(1, 1) },
	} {
		wrong := now
		change(&wrong)
		isErr(t, touch.Check(wrong), api.ErrArg, "Check", wrong)
	}
}
