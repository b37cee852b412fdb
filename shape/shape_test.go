package shape_test

import (
	"math"
	"slices"
	"testing"

	"tumble/api"
	"tumble/box"
	"tumble/frame"
	"tumble/poly"
	"tumble/shape"
)

var (
	minus = math.Copysign(0, -1)
	none  = math.NaN()
	inf   = math.Inf(1)
	past  = math.Nextafter(api.MaxReal, inf)
	short = math.Nextafter(api.MinReal, 0)
)

func v(x, y float64) api.Vec { return api.Vec{X: x, Y: y} }

// points are told by their parts, one after the other.
func points(l ...float64) []api.Vec {
	var p []api.Vec
	for i := 0; i < len(l); i += 2 {
		p = append(p, v(l[i], l[i+1]))
	}
	return p
}

// disc, pill and convex are the three kinds, their points told by parts.
func disc(radius float64, l ...float64) api.Shape {
	return api.Shape{Kind: api.Circle, Radius: radius, Points: points(l...)}
}

func pill(radius float64, l ...float64) api.Shape {
	return api.Shape{Kind: api.Capsule, Radius: radius, Points: points(l...)}
}

func convex(l ...float64) api.Shape { return api.Shape{Kind: api.Polygon, Points: points(l...)} }

func square() api.Shape { return convex(0, 0, 2, 0, 2, 2, 0, 2) }

func at(x, y float64, q complex128) api.Frame { return api.Frame{At: v(x, y), Turn: q} }

func scaled(s api.Shape, by float64) api.Shape {
	l := slices.Clone(s.Points)
	for i := range l {
		l[i] = v(l[i].X*by, l[i].Y*by)
	}
	return api.Shape{Kind: s.Kind, Radius: s.Radius * by, Points: l}
}

// The oracle rounds each operation by itself: a call that is not inlined can't be worked out as one with the next.
//
//go:noinline
func add(a, b float64) float64 { return a + b }

//go:noinline
func sub(a, b float64) float64 { return a - b }

//go:noinline
func mul(a, b float64) float64 { return a * b }

//go:noinline
func div(a, b float64) float64 { return a / b }

func less(a, b api.Vec) api.Vec { return v(sub(a.X, b.X), sub(a.Y, b.Y)) }

func more(a api.Vec, by float64, b api.Vec) api.Vec {
	return v(add(a.X, mul(by, b.X)), add(a.Y, mul(by, b.Y)))
}

func dot(a, b api.Vec) float64 { return add(mul(a.X, b.X), mul(a.Y, b.Y)) }

func length(a api.Vec) float64 { return math.Sqrt(dot(a, a)) }

// same is told by bits, apart from what the package does.
func same(a, b float64) bool {
	if math.IsNaN(a) || math.IsNaN(b) {
		return math.IsNaN(a) && math.IsNaN(b)
	}
	return math.Float64bits(a) == math.Float64bits(b)
}

func sameVec(a, b api.Vec) bool { return same(a.X, b.X) && same(a.Y, b.Y) }

func sameShape(a, b api.Shape) bool {
	return a.Kind == b.Kind && same(a.Radius, b.Radius) && slices.EqualFunc(a.Points, b.Points, sameVec)
}

func equalShape(a, b api.Shape) bool {
	return a.Kind == b.Kind && a.Radius == b.Radius && slices.Equal(a.Points, b.Points)
}

func isErr(t *testing.T, got, want api.Errno, call string, args ...any) {
	t.Helper()
	if got != want {
		t.Fatalf("%s%v tells %d, not %d", call, args, got, want)
	}
}

func isShape(t *testing.T, got, want api.Shape, call string, args ...any) {
	t.Helper()
	if !sameShape(got, want) {
		t.Fatalf("%s%v is %v, not %v", call, args, got, want)
	}
}

func isBox(t *testing.T, got, want api.Box, call string, args ...any) {
	t.Helper()
	if !sameVec(got.Low, want.Low) || !sameVec(got.High, want.High) {
		t.Fatalf("%s%v is %v, not %v", call, args, got, want)
	}
}

func isVec(t *testing.T, got, want api.Vec, call string, args ...any) {
	t.Helper()
	if !sameVec(got, want) {
		t.Fatalf("%s%v is %v, not %v", call, args, got, want)
	}
}

func isFloat(t *testing.T, got, want float64, call string, args ...any) {
	t.Helper()
	if !same(got, want) {
		t.Fatalf("%s%v is %v, not %v", call, args, got, want)
	}
}

func isBool(t *testing.T, got, want bool, call string, args ...any) {
	t.Helper()
	if got != want {
		t.Fatalf("%s%v is %v", call, args, got)
	}
}

// enough tells of each kind whether it came up so often.
func enough[K comparable](t *testing.T, count map[K]int, least int, kinds ...K) {
	t.Helper()
	for _, k := range kinds {
		if count[k] < least {
			t.Errorf("too few of %v: %v", k, count)
		}
	}
}

// source makes floats from a rule of whole numbers: the same ones in each run.
type source uint64

func (s *source) next() uint64 {
	*s = *s*6364136223846793005 + 1442695040888963407
	return uint64(*s >> 31)
}

func (s *source) below(n int) int { return int(s.next() % uint64(n)) }

// plain has all its bits in use, and is from some 2^-20 to 2^20.
func (s *source) plain() float64 {
	whole := int64(s.next()<<20^s.next())&(1<<53-1) - 1<<52
	return math.Ldexp(float64(whole), s.below(40)-72)
}

// part is from 0 to 1.
func (s *source) part() float64 { return float64(s.next()&(1<<30-1)) / (1 << 30) }

// few are from few floats, so that places are often equal or square to one another, noughts among them.
func (s *source) few() float64 { return []float64{-2, -1, minus, 0, 1, 2}[s.below(6)] }

// edge is a float at which something may change, wrong ones among them.
func (s *source) edge() float64 {
	return []float64{none, -inf, -past, -api.MaxReal, -1, minus, 0, 0x1p-1074, short, api.MinReal, 1, api.MaxReal, past, inf}[s.below(14)]
}

func (s *source) place() api.Vec {
	if s.below(3) == 0 {
		return v(s.few(), s.few())
	}
	return v(s.plain(), s.plain())
}

// radius is from MinReal to 2^20.
func (s *source) radius() float64 { return math.Ldexp(1+s.part(), s.below(50)-30) }

// round are points of a circle, rising by their angles: most often a polygon.
func (s *source) round(n int) []api.Vec {
	middle, far := s.place(), math.Ldexp(1+s.part(), s.below(30)-15)
	angles := make([]float64, n)
	for i := range angles {
		angles[i] = s.part() * 2 * math.Pi
	}
	slices.Sort(angles)
	l := make([]api.Vec, n)
	for i, a := range angles {
		l[i] = v(middle.X+far*math.Cos(a), middle.Y+far*math.Sin(a))
	}
	return l
}

// flat are points so near to one line that rounding decides what they are.
func (s *source) flat(n int) []api.Vec {
	way := v(s.part(), s.part())
	l := make([]api.Vec, n)
	for i := range l {
		far := 4 * s.part()
		l[i] = v(way.X*far, way.Y*far)
		if s.below(2) == 0 {
			l[i].X = math.Nextafter(l[i].X, inf)
		}
	}
	return l
}

// coarse are points of few floats: boxes and triangles with noughts of both signs.
func (s *source) coarse() []api.Vec {
	l := make([]api.Vec, 3+s.below(2))
	for i := range l {
		l[i] = v(s.few(), s.few())
	}
	return l
}

func (s *source) corners() []api.Vec {
	switch s.below(8) {
	case 0, 1:
		return s.flat(3 + s.below(2))
	case 2, 3, 4:
		return s.coarse()
	}
	return s.round(3 + s.below(6))
}

// shape is one that most often may be.
func (s *source) shape() api.Shape {
	switch s.below(4) {
	case 0:
		return api.Shape{Kind: api.Circle, Radius: s.radius(), Points: []api.Vec{s.place()}}
	case 1:
		return api.Shape{Kind: api.Capsule, Radius: s.radius(), Points: []api.Vec{s.place(), s.place()}}
	}
	return api.Shape{Kind: api.Polygon, Radius: []float64{0, minus}[s.below(2)], Points: s.corners()}
}

// spoiled is one of which something may be wrong.
func (s *source) spoiled() api.Shape {
	w := s.shape()
	for range 1 + s.below(2) {
		switch s.below(5) {
		case 0:
			w.Kind = uint8(s.below(6))
		case 1:
			w.Radius = s.edge()
		case 2:
			w.Points = make([]api.Vec, s.below(11))
		case 3:
			w.Points = append(w.Points, s.place())
		case 4:
			if n := len(w.Points); n > 0 {
				w.Points[s.below(n)] = v(s.edge(), s.few())
			}
		}
	}
	return w
}

// overShapes hands over shapes that may be.
func overShapes(n int, f func(s *source, w api.Shape)) {
	s := source(7)
	for range n {
		if w := s.shape(); wantCheck(w) == api.OK {
			f(&s, w)
		}
	}
}

// frame may be, but for some.
func (s *source) frame() api.Frame {
	angle := s.part() * 2 * math.Pi
	f := api.Frame{At: s.place(), Turn: complex(math.Cos(angle), math.Sin(angle))}
	switch s.below(10) {
	case 0:
		f.Turn = []complex128{1, complex(0, 1), -1, complex(0, -1), complex(0.6, 0.8)}[s.below(5)]
	case 1:
		f.At = v(f.At.X*0x1p20, f.At.Y*0x1p20)
	case 2:
		f.At.X = s.edge()
	case 3:
		f.At.Y = s.edge()
	case 4:
		f.Turn *= complex(1+math.Ldexp(s.part(), -38-s.below(6)), 0)
	}
	return f
}

func within(p api.Vec) bool {
	return math.Abs(p.X) <= api.MaxReal && math.Abs(p.Y) <= api.MaxReal
}

// wantCheck goes by P7.1's words.
func wantCheck(s api.Shape) api.Errno {
	counts := map[uint8][2]int{api.Circle: {1, 1}, api.Capsule: {2, 2}, api.Polygon: {3, 8}}
	n, known := counts[s.Kind]
	switch {
	case !known:
		return api.ErrKind
	case len(s.Points) < n[0] || len(s.Points) > n[1]:
		return api.ErrShape
	case s.Kind == api.Polygon && s.Radius != 0:
		return api.ErrShape
	case s.Kind == api.Polygon:
		return poly.Check(s.Points)
	}
	for _, p := range s.Points {
		if !within(p) {
			return api.ErrReal
		}
	}
	if math.IsNaN(s.Radius) || s.Radius < api.MinReal || s.Radius > api.MaxReal {
		return api.ErrReal
	}
	if s.Kind == api.Capsule && length(less(s.Points[1], s.Points[0])) < api.MinReal {
		return api.ErrShape
	}
	return api.OK
}

// refused hands a shape to all calls, with what else is right and what is wrong, and asks that each answers this error and nothing beside.
func refused(t *testing.T, s api.Shape, want api.Errno) {
	t.Helper()
	isErr(t, shape.Check(s), want, "Check", s)
	b, e := shape.Box(s)
	isErr(t, e, want, "Box", s)
	isBox(t, b, api.Box{}, "Box beside an error", s)
	turned, e := shape.Turned(s)
	isErr(t, e, want, "Turned", s)
	isNothing(t, turned, "Turned", s)
	for _, f := range []api.Frame{frame.Home(), at(none, 0, 1), at(0, 0, 2), at(past, 0, 0)} {
		put, e := shape.Put(s, f)
		isErr(t, e, want, "Put", s, f)
		isNothing(t, put, "Put", s, f)
	}
	for _, p := range []api.Vec{v(0, 0), v(none, 0), v(0, inf)} {
		has, e := shape.Has(s, p)
		isErr(t, e, want, "Has", s, p)
		isBool(t, has, false, "Has beside an error", s, p)
		far, e := shape.Far(s, p)
		isErr(t, e, want, "Far", s, p)
		isVec(t, far, v(0, 0), "Far beside an error", s, p)
		reach, e := shape.Reach(s, p)
		isErr(t, e, want, "Reach", s, p)
		isFloat(t, reach, 0, "Reach beside an error", s, p)
	}
}

func isNothing(t *testing.T, s api.Shape, call string, args ...any) {
	t.Helper()
	if !sameShape(s, api.Shape{}) || s.Points != nil {
		t.Fatalf("%s%v is %v beside an error", call, args, s)
	}
}

func TestP7_1Check(t *testing.T) {
	count := map[api.Errno]int{}
	s := source(1)
	for range 40000 {
		for _, w := range []api.Shape{s.shape(), s.spoiled()} {
			want := wantCheck(w)
			count[want]++
			isErr(t, shape.Check(w), want, "Check", w)
			if want != api.OK {
				refused(t, w, want)
			}
		}
	}
	enough(t, count, 3000, api.OK, api.ErrKind, api.ErrShape, api.ErrReal, api.ErrPoly)
}

func TestP7_1CheckTakes(t *testing.T) {
	for i, s := range []api.Shape{
		disc(3, 1, 2), disc(api.MinReal, 0, minus), disc(api.MaxReal, api.MaxReal, -api.MaxReal),
		pill(1, 0, 0, 4, 0), pill(api.MinReal, 0, 0, api.MinReal, 0), pill(api.MaxReal, 0, 0, 0, -api.MinReal), pill(1, -api.MaxReal, api.MaxReal, api.MaxReal, -api.MaxReal), pill(1, 0, 0, -0x1.8p-31, 0x1.8p-31),
		square(), convex(0, 0, 1, 0, 0, 1), {Kind: api.Polygon, Radius: minus, Points: square().Points}, convex(0, 0, 2, -1, 4, 0, 5, 2, 4, 4, 2, 5, 0, 4, -1, 2),
		convex(-api.MaxReal, -api.MaxReal, api.MaxReal, -api.MaxReal, api.MaxReal, api.MaxReal, -api.MaxReal, api.MaxReal),
	} {
		if e := shape.Check(s); e != api.OK {
			t.Errorf("%d: Check(%v) tells %d", i, s, e)
		}
	}
}

func TestP7_1CheckKinds(t *testing.T) {
	for k := range 256 {
		if k >= 1 && k <= 3 {
			continue
		}
		for _, s := range []api.Shape{disc(1, 0, 0), pill(1, 0, 0, 1, 0), square(), {}, disc(none, none, none), convex(none, 0)} {
			s.Kind = uint8(k)
			isErr(t, shape.Check(s), api.ErrKind, "Check", s)
		}
	}
	refused(t, api.Shape{}, api.ErrKind)
	refused(t, api.Shape{Kind: 255, Radius: none, Points: points(none, none)}, api.ErrKind)
}

func TestP7_1CheckCounts(t *testing.T) {
	eight := points(0, 0, 2, -1, 4, 0, 5, 2, 4, 4, 2, 5, 0, 4, -1, 2)
	for n := range 70 {
		l := make([]api.Vec, n)
		copy(l, eight)
		for _, radius := range []float64{1, 0, minus, none, inf, -1, past} {
			for kind, fits := range map[uint8]bool{api.Circle: n == 1, api.Capsule: n == 2, api.Polygon: n >= 3 && n <= 8 && radius == 0} {
				s := api.Shape{Kind: kind, Radius: radius, Points: l}
				if fits {
					isErr(t, shape.Check(s), wantCheck(s), "Check", s)
					continue
				}
				refused(t, s, api.ErrShape)
				// How many there are, and a polygon's radius, are looked at ahead of the points.
				if n > 0 {
					s.Points = slices.Clone(l)
					s.Points[n-1] = v(none, 0)
					refused(t, s, api.ErrShape)
				}
			}
		}
	}
	refused(t, api.Shape{Kind: api.Circle, Radius: 1, Points: []api.Vec{}}, api.ErrShape)
}

func TestP7_1CheckReals(t *testing.T) {
	for _, wrong := range []float64{none, inf, -inf, past, -past, math.MaxFloat64} {
		for _, s := range []api.Shape{
			disc(1, wrong, 0), disc(1, 0, wrong), pill(1, wrong, 0, 1, 0), pill(1, 0, wrong, 1, 0), pill(1, 0, 0, wrong, 0), pill(1, 0, 0, 0, wrong), pill(1, wrong, 0, wrong, 0),
			convex(wrong, 0, 2, 0, 2, 2), convex(0, wrong, 2, 0, 2, 2), convex(0, 0, 2, 0, 2, 2, 0, 2, -1, wrong),
			disc(wrong, 0, 0), pill(wrong, 0, 0, 1, 0),
		} {
			refused(t, s, api.ErrReal)
		}
	}
	for _, wrong := range []float64{0, minus, short, -api.MinReal, -1, -api.MaxReal, 0x1p-1074} {
		refused(t, disc(wrong, 0, 0), api.ErrReal)
		refused(t, pill(wrong, 0, 0, 1, 0), api.ErrReal)
		// The floats are looked at ahead of how far the points lie apart.
		refused(t, pill(wrong, 1, 1, 1, 1), api.ErrReal)
	}
}

func TestP7_1CheckApart(t *testing.T) {
	for _, s := range []api.Shape{
		pill(1, 0, 0, 0, 0), pill(1, 0, 0, minus, minus), pill(1, 0, 0, short, 0), pill(1, 0, 0, 0, -short), pill(1, 3, 4, 3, 4), pill(1, 0, 0, 0x1p-31, 0x1p-31), pill(api.MaxReal, api.MaxReal, 0, api.MaxReal, 0x1p-40), pill(1, 0, 0, 1e-200, 0),
	} {
		refused(t, s, api.ErrShape)
	}
	for _, s := range []api.Shape{
		convex(0, 0, 0, 2, 2, 2, 2, 0), convex(0, 0, 1, 1, 2, 2), convex(0, 0, short, 0, 0, 1), convex(0, 0, 2, 0, 2, 2, 1, 0.5), convex(0, 0, 0, 0, 0, 0), convex(0, 0, 1, 0, 2, 0, 2, 2, 0, 2),
	} {
		refused(t, s, api.ErrPoly)
	}
}

// wantPut goes by P7.2's words.
func wantPut(s api.Shape, f api.Frame) (api.Shape, api.Errno) {
	if e := frame.Check(f); e != api.OK {
		return api.Shape{}, e
	}
	l := make([]api.Vec, len(s.Points))
	for i, p := range s.Points {
		l[i] = frame.To(f, p)
	}
	s.Points = l
	if e := wantCheck(s); e != api.OK {
		return api.Shape{}, e
	}
	return s, api.OK
}

func isPut(t *testing.T, s api.Shape, f api.Frame) api.Errno {
	t.Helper()
	got, e := shape.Put(s, f)
	want, wantE := wantPut(s, f)
	isErr(t, e, wantE, "Put", s, f)
	isShape(t, got, want, "Put", s, f)
	if e != api.OK {
		isNothing(t, got, "Put", s, f)
	}
	return e
}

func TestP7_2Put(t *testing.T) {
	count, put := map[api.Errno]int{}, map[uint8]int{}
	overShapes(60000, func(s *source, w api.Shape) {
		e := isPut(t, w, s.frame())
		count[e]++
		if e == api.OK {
			put[w.Kind]++
		}
	})
	enough(t, count, 400, api.ErrReal, api.ErrTurn, api.ErrPoly)
	enough(t, put, 3000, api.Circle, api.Capsule, api.Polygon)
}

func TestP7_2PutEdges(t *testing.T) {
	long := api.MaxReal
	for i, c := range []struct {
		s    api.Shape
		f    api.Frame
		want api.Shape
		e    api.Errno
	}{
		{disc(3, 1, 2), at(10, 20, complex(0, 1)), disc(3, 8, 21), api.OK},
		{disc(1, 10, 0), at(1, 1, complex(0.6, 0.8)), disc(1, 7, 9), api.OK},
		{pill(1, 0, 0, 4, 0), at(1, 1, -1), pill(1, 1, 1, -3, 1), api.OK},
		{square(), at(-1, 3, complex(0, 1)), convex(-1, 3, -1, 5, -3, 5, -3, 3), api.OK},
		{disc(long, long/2, 0), at(long/2, 0, 1), disc(long, long, 0), api.OK},
		{disc(1, 1, 0), at(long, 0, 1), api.Shape{}, api.ErrReal}, {disc(1, 0, 1), at(0, long, 1), api.Shape{}, api.ErrReal}, {disc(1, -1, 0), at(-long, 0, 1), api.Shape{}, api.ErrReal},
		{disc(1, long, long), at(0, 0, complex(math.Sqrt(0.5), math.Sqrt(0.5))), api.Shape{}, api.ErrReal},
		// What rounding spoils, far away.
		{pill(1, 0, 0, api.MinReal, 0), at(0x1p23, 0, 1), api.Shape{}, api.ErrShape}, {pill(1, 0, 0, api.MinReal, 0), at(0x1p22, 0, 1), pill(1, 0x1p22, 0, 0x1p22+0x1p-30, 0), api.OK},
		{pill(1, 0, 0, api.MinReal, 0), at(0, 0x1p23, 1), pill(1, 0, 0x1p23, api.MinReal, 0x1p23), api.OK}, {pill(1, 0, 0, 1, 0), at(0, 0, complex(1-0x1p-42, 0)), pill(1, 0, 0, 1-0x1p-42, 0), api.OK},
		{pill(1, 0, 0, api.MinReal, 0), at(0, 0, complex(1-0x1p-42, 0)), api.Shape{}, api.ErrShape},
		{scaled(square(), 0x1p-29), at(0x1p30, 0, 1), api.Shape{}, api.ErrPoly},
		{convex(0, 0, 1, 0, 0.5, 0x1p-40), at(0, 1<<20, 1), api.Shape{}, api.ErrPoly},
		{disc(1, 0, 0), at(0, 0, complex(1+0x1p-20, 0)), api.Shape{}, api.ErrTurn}, {disc(1, 0, 0), at(0, 0, 0), api.Shape{}, api.ErrTurn}, {disc(1, 0, 0), at(0, 0, complex(none, 0)), api.Shape{}, api.ErrTurn}, {square(), at(0, 0, complex(0, inf)), api.Shape{}, api.ErrTurn},
		{disc(1, 0, 0), at(past, 0, 2), api.Shape{}, api.ErrReal}, {pill(1, 0, 0, 1, 0), at(none, 0, 1), api.Shape{}, api.ErrReal}, {square(), at(0, -inf, 1), api.Shape{}, api.ErrReal},
	} {
		got, e := shape.Put(c.s, c.f)
		isErr(t, e, c.e, "Put", i)
		if !equalShape(got, c.want) {
			t.Errorf("%d: Put(%v, %v) is %v, not %v", i, c.s, c.f, got, c.want)
		}
	}
	put, _ := shape.Put(api.Shape{Kind: api.Polygon, Radius: minus, Points: square().Points}, frame.Home())
	isFloat(t, put.Radius, minus, "the Radius of Put")
}

// wantBox goes by P7.3's words.
func wantBox(s api.Shape) api.Box {
	b, _ := box.Of(s.Points)
	if s.Kind == api.Polygon {
		return b
	}
	r := s.Radius
	return api.Box{Low: v(sub(b.Low.X, r), sub(b.Low.Y, r)), High: v(add(b.High.X, r), add(b.High.Y, r))}
}

func TestP7_3Box(t *testing.T) {
	count := map[uint8]int{}
	overShapes(60000, func(_ *source, w api.Shape) {
		count[w.Kind]++
		got, e := shape.Box(w)
		isErr(t, e, api.OK, "Box", w)
		isBox(t, got, wantBox(w), "Box", w)
	})
	enough(t, count, 8000, api.Circle, api.Capsule, api.Polygon)
}

func TestP7_3BoxEdges(t *testing.T) {
	for i, c := range []struct {
		s                      api.Shape
		left, low, right, high float64
	}{
		{disc(0.5, -1, 3), -1.5, 2.5, -0.5, 3.5}, {disc(api.MaxReal, api.MaxReal, -api.MaxReal), 0, -0x1p41, 0x1p41, 0},
		{pill(2, 5, 1, -3, 4), -5, -1, 7, 6}, {pill(1, 1, 4, 1, -4), 0, -5, 2, 5},
		{convex(0, 0, 2, -1, 4, 0, 5, 2, 4, 4, 2, 5, 0, 4, -1, 2), -1, -1, 5, 5},
		// A polygon's noughts keep their signs: nothing is put to them.
		{convex(minus, -1, minus, 1, -1, 0), -1, -1, minus, 1}, {convex(minus, minus, 1, 0, 0, 1), minus, minus, 1, 1}, {convex(-1, -1, 1, -1, 0, minus), -1, -1, 1, minus},
		{api.Shape{Kind: api.Polygon, Radius: minus, Points: points(0, 0, 1, 0, 0, 1)}, 0, 0, 1, 1},
		// The others' become what the sums are.
		{disc(1, minus, 1), -1, 0, 1, 2}, {disc(1, -1, -1), -2, -2, 0, 0},
	} {
		got, e := shape.Box(c.s)
		isErr(t, e, api.OK, "Box", i)
		isBox(t, got, api.Box{Low: v(c.left, c.low), High: v(c.right, c.high)}, "Box", i)
	}
}

// wantNext goes by the chapter's words of the place of a segment that is next to p.
func wantNext(a, b, p api.Vec) api.Vec {
	d := less(b, a)
	part := div(dot(less(p, a), d), dot(d, d))
	if part < 0 {
		part = 0
	}
	if part > 1 {
		part = 1
	}
	return more(a, part, d)
}

// wantHas goes by P7.4's words.
func wantHas(s api.Shape, p api.Vec) bool {
	centre := s.Points[0]
	switch s.Kind {
	case api.Polygon:
		has, _ := poly.Has(s.Points, p)
		return has
	case api.Capsule:
		centre = wantNext(s.Points[0], s.Points[1], p)
	}
	way := less(p, centre)
	return dot(way, way) <= mul(s.Radius, s.Radius)
}

// edgePlace is a place of which rounding decides whether the shape has it.
func (s *source) edgePlace(w api.Shape) api.Vec {
	a, b := w.Points[s.below(len(w.Points))], w.Points[s.below(len(w.Points))]
	part, angle := s.part(), s.part()*2*math.Pi
	on := v(a.X+part*(b.X-a.X), a.Y+part*(b.Y-a.Y))
	if n := length(less(b, a)); n > 0 && s.below(2) == 0 {
		d := less(b, a)
		return v(on.X-w.Radius*d.Y/n, on.Y+w.Radius*d.X/n)
	}
	return v(a.X+w.Radius*math.Cos(angle), a.Y+w.Radius*math.Sin(angle))
}

type answer struct {
	kind uint8
	is   bool
}

func TestP7_4Has(t *testing.T) {
	count := map[answer]int{}
	check := func(w api.Shape, p api.Vec) {
		t.Helper()
		want := wantHas(w, p)
		count[answer{w.Kind, want}]++
		got, e := shape.Has(w, p)
		isErr(t, e, api.OK, "Has", w, p)
		isBool(t, got, want, "Has", w, p)
	}
	overShapes(60000, func(s *source, w api.Shape) {
		check(w, s.place())
		for range 4 {
			p := s.edgePlace(w)
			check(w, p)
			check(w, v(math.Nextafter(p.X, inf), math.Nextafter(p.Y, -inf)))
		}
	})
	for _, kind := range []uint8{api.Circle, api.Capsule, api.Polygon} {
		enough(t, count, 10000, answer{kind, true}, answer{kind, false})
	}
}

func TestP7_4HasEdges(t *testing.T) {
	long := api.MaxReal
	for i, c := range []struct {
		s    api.Shape
		p    api.Vec
		want bool
	}{
		{disc(5, 1, 2), v(4, 6), true}, {disc(5, 1, 2), v(1, 7), true}, {disc(5, 1, 2), v(1, math.Nextafter(7, 8)), false}, {disc(5, 1, 2), v(-4, 2), true}, {disc(5, 1, 2), v(math.Nextafter(-4, -5), 2), false},
		{disc(api.MinReal, 0, 0), v(api.MinReal, 0), true}, {disc(api.MinReal, 0, 0), v(math.Nextafter(api.MinReal, 1), 0), false}, {disc(long, 0, 0), v(long, 0), true}, {disc(long, long, long), v(-long, -long), false}, {disc(long, 0, 0), v(long, 1), true},
		{pill(1, 0, 0, 4, 0), v(0, 1), true}, {pill(1, 0, 0, 4, 0), v(4, -1), true}, {pill(1, 0, 0, 4, 0), v(-1, 0), true}, {pill(1, 0, 0, 4, 0), v(5, 0), true}, {pill(1, 0, 0, 4, 0), v(-1, 0.1), false}, {pill(1, 0, 0, 4, 0), v(5.1, 0), false}, {pill(1, 0, 0, 4, 0), v(2, math.Nextafter(1, 2)), false}, {pill(1, 0, 0, 4, 0), v(2, -1), true}, {pill(1, 0, 0, 4, 0), v(4.6, 0.8), true}, {pill(1, 0, 0, 4, 0), v(4.6, 0.9), false}, {pill(1, 0, 0, 4, 0), v(-0.6, -0.8), true},
		{pill(5, 0, 0, 3, 4), v(-4, 3), true}, {pill(5, 0, 0, 3, 4), v(-1, 7), true}, {pill(5, 0, 0, 3, 4), v(7, 1), true}, {pill(5, 0, 0, 3, 4), v(6, 8), true}, {pill(5, 0, 0, 3, 4), v(6, 8.1), false}, {pill(5, 0, 0, 3, 4), v(-3, -4), true}, {pill(5, 0, 0, 3, 4), v(-3, -4.1), false},
		{pill(1, -long, 0, long, 0), v(1, 1), true}, {pill(1, -long, 0, long, 0), v(1, 1.5), false}, {pill(1, 0, 0, api.MinReal, 0), v(long, 0), false}, {pill(1, 0, 0, api.MinReal, 0), v(-1, 0), true},
		{square(), v(1, 1), true}, {square(), v(0, 1), true}, {square(), v(minus, minus), true}, {square(), v(2, 2), true}, {square(), v(-0x1p-40, 1), false}, {square(), v(1, math.Nextafter(2, 3)), false}, {square(), v(long, long), false},
	} {
		got, e := shape.Has(c.s, c.p)
		isErr(t, e, api.OK, "Has", i)
		isBool(t, got, c.want, "Has", i, c.s, c.p)
	}
}

func TestP7_4HasReals(t *testing.T) {
	for _, s := range []api.Shape{disc(api.MaxReal, 0, 0), pill(api.MaxReal, 0, 0, 1, 0), square()} {
		for _, wrong := range []float64{none, inf, -inf, past, -past} {
			for _, p := range []api.Vec{v(wrong, 0), v(0, wrong), v(wrong, none)} {
				has, e := shape.Has(s, p)
				isErr(t, e, api.ErrReal, "Has", s, p)
				isBool(t, has, false, "Has", s, p)
				far, e := shape.Far(s, p)
				isErr(t, e, api.ErrReal, "Far", s, p)
				isVec(t, far, v(0, 0), "Far", s, p)
				reach, e := shape.Reach(s, p)
				isErr(t, e, api.ErrReal, "Reach", s, p)
				isFloat(t, reach, 0, "Reach", s, p)
			}
		}
	}
}

// wantFar goes by P7.5's words.
func wantFar(s api.Shape, way api.Vec) api.Vec {
	e := s.Points[0]
	switch s.Kind {
	case api.Capsule:
		if dot(s.Points[1], way) > dot(s.Points[0], way) {
			e = s.Points[1]
		}
	case api.Polygon:
		i, _ := poly.Far(s.Points, way)
		return s.Points[i]
	}
	n := length(way)
	if n == 0 {
		return e
	}
	return more(e, s.Radius, v(div(way.X, n), div(way.Y, n)))
}

func isFar(t *testing.T, s api.Shape, way api.Vec) {
	t.Helper()
	got, e := shape.Far(s, way)
	isErr(t, e, api.OK, "Far", s, way)
	isVec(t, got, wantFar(s, way), "Far", s, way)
}

func TestP7_5Far(t *testing.T) {
	overShapes(60000, func(s *source, w api.Shape) {
		isFar(t, w, s.place())
		isFar(t, w, v(s.few(), s.few()))
		isFar(t, w, v(math.Ldexp(s.plain(), -s.below(1100)), math.Ldexp(s.plain(), -s.below(1100))))
		// Square to two of the points, so that rounding decides which of them is farther.
		d := less(w.Points[s.below(len(w.Points))], w.Points[0])
		if d = v(-d.Y, d.X); within(d) {
			isFar(t, w, d)
			isFar(t, w, v(-d.X, math.Nextafter(-d.Y, inf)))
		}
	})
}

func TestP7_5FarEdges(t *testing.T) {
	long := api.MaxReal
	for i, c := range []struct {
		s         api.Shape
		way, want api.Vec
	}{
		{disc(5, 1, 2), v(3, 4), v(4, 6)}, {disc(5, 1, 2), v(-3, 4), v(-2, 6)}, {disc(5, 1, 2), v(0, long), v(1, 7)}, {disc(5, 1, 2), v(0, 0x1p-400), v(1, 7)},
		// Where there is no unit way the point itself is told, its noughts too.
		{disc(5, minus, 2), v(minus, 0), v(minus, 2)}, {disc(5, 1, 2), v(0, 0x1p-1074), v(1, 2)}, {disc(5, 1, 2), v(1e-200, -1e-200), v(1, 2)},
		{pill(1, 0, 0, 4, 0), v(-1, 0), v(-1, 0)}, {pill(1, 0, 0, 4, 0), v(0, -1), v(0, -1)}, {pill(1, 4, 0, 0, 0), v(0, 1), v(4, 1)}, {pill(1, 4, 0, 0, 0), v(1, 0), v(5, 0)}, {pill(5, 0, 0, 4, 0), v(3, 4), v(7, 4)}, {pill(5, 0, 0, 4, 0), v(-3, 4), v(-3, 4)},
		{pill(1, minus, minus, 4, 0), v(0, 0), v(minus, minus)}, {pill(1, 0, 0, 4, 0), v(1e-200, 0), v(4, 0)}, {pill(1, 0, 0, 4, 0), v(-1e-200, 0), v(0, 0)},
		{pill(1, 1, 7, 1, 7.5), v(1, 0), v(2, 7)}, {pill(1, 1, 7, 1, 7.5), v(1, 0x1p-300), v(2, 7)},
		{square(), v(-1, 1), v(0, 2)}, {square(), v(1, 0), v(2, 0)}, {square(), v(0, 0), v(0, 0)}, {square(), v(long, long), v(2, 2)}, {square(), v(0x1p-1074, 0x1p-1074), v(2, 2)},
		// A polygon's point stays as it is.
		{convex(minus, minus, 1, 0, 0, 1), v(-1, -1), v(minus, minus)}, {convex(minus, minus, 1, 0, 0, 1), v(0, 0), v(minus, minus)}, {convex(minus, minus, 1, minus, 0, 1), v(1, -1), v(1, minus)},
		{api.Shape{Kind: api.Polygon, Radius: minus, Points: points(minus, 0, 1, minus, 0, 1)}, v(1, 0), v(1, minus)},
		{disc(long, long, 0), v(1, 0), v(0x1p41, 0)}, {pill(long, -long, 0, long, 0), v(-long, 0), v(-0x1p41, 0)},
	} {
		got, e := shape.Far(c.s, c.way)
		isErr(t, e, api.OK, "Far", i)
		isVec(t, got, c.want, "Far", i, c.s, c.way)
	}
}

// wantReach goes by P7.6's words.
func wantReach(s api.Shape, from api.Vec) float64 {
	far := 0.0
	for _, p := range s.Points {
		far = math.Max(far, length(less(p, from)))
	}
	return add(far, s.Radius)
}

func TestP7_6Reach(t *testing.T) {
	overShapes(60000, func(s *source, w api.Shape) {
		for _, from := range []api.Vec{s.place(), v(0, 0), w.Points[s.below(len(w.Points))]} {
			got, e := shape.Reach(w, from)
			isErr(t, e, api.OK, "Reach", w, from)
			isFloat(t, got, wantReach(w, from), "Reach", w, from)
		}
	})
}

func TestP7_6ReachEdges(t *testing.T) {
	long := api.MaxReal
	for i, c := range []struct {
		s    api.Shape
		from api.Vec
		want float64
	}{
		{disc(3, 1, 2), v(4, 6), 8}, {disc(3, 1, 2), v(1, 2), 3}, {disc(api.MinReal, 0, 0), v(minus, minus), api.MinReal}, {disc(long, 0, long), v(0, -long), 0x1p41 + 0x1p40},
		{pill(1, 0, 0, 4, 0), v(0, 0), 5}, {pill(1, 0, 0, 4, 0), v(4, 0), 5}, {pill(1, 0, 0, 4, 0), v(2, 0), 3}, {pill(1, 0, 0, 4, 0), v(0, 3), 6}, {pill(1, 0, 0, 4, 0), v(4, 3), 6}, {pill(2, 3, 4, 6, 8), v(0, 0), 12},
		{square(), v(0, 2), math.Sqrt(8)}, {square(), v(1, 1), math.Sqrt(2)}, {square(), v(2, 5), math.Sqrt(29)}, {square(), v(5, 6), math.Sqrt(61)}, {square(), v(-1, -2), 5}, {convex(0, 0, 3, 4, 0, 1), v(0, 0), 5}, {convex(0, 0, 3, -4, 1, 0), v(0, 0), 5},
		{api.Shape{Kind: api.Polygon, Radius: minus, Points: square().Points}, v(-1, -2), 5},
	} {
		got, e := shape.Reach(c.s, c.from)
		isErr(t, e, api.OK, "Reach", i)
		isFloat(t, got, c.want, "Reach", i, c.s, c.from)
	}
}

// wantTurned goes by P7.7's words.
func wantTurned(s api.Shape) (api.Shape, api.Errno) {
	n := len(s.Points)
	l := make([]api.Vec, n)
	for i, p := range s.Points {
		to := i
		if s.Kind == api.Polygon && i > 0 {
			to = n - i
		}
		l[to] = v(math.Copysign(p.X, -math.Copysign(1, p.X)), p.Y)
	}
	s.Points = l
	if e := wantCheck(s); e != api.OK {
		return api.Shape{}, e
	}
	return s, api.OK
}

func TestP7_7Turned(t *testing.T) {
	count, turned := map[api.Errno]int{}, map[uint8]int{}
	overShapes(60000, func(_ *source, w api.Shape) {
		got, e := shape.Turned(w)
		want, wantE := wantTurned(w)
		isErr(t, e, wantE, "Turned", w)
		isShape(t, got, want, "Turned", w)
		count[e]++
		if e == api.OK {
			turned[w.Kind]++
			return
		}
		isNothing(t, got, "Turned", w)
	})
	enough(t, count, 20, api.ErrPoly)
	enough(t, turned, 8000, api.Circle, api.Capsule, api.Polygon)
}

func TestP7_7TurnedEdges(t *testing.T) {
	for i, c := range []struct{ s, want api.Shape }{
		{disc(3, 1, 2), disc(3, -1, 2)}, {disc(3, minus, minus), disc(3, 0, minus)}, {disc(3, 0, 1), disc(3, minus, 1)}, {disc(1, api.MaxReal, 0), disc(1, -api.MaxReal, 0)},
		{pill(1, 1, 2, 3, 4), pill(1, -1, 2, -3, 4)}, {pill(1, -3, 4, 1, 2), pill(1, 3, 4, -1, 2)},
		{convex(1, 0, 3, 1, 2, 2), convex(-1, 0, -2, 2, -3, 1)},
		{convex(0, 0, 2, -1, 4, 0, 5, 2, 4, 4, 2, 5, 0, 4, -1, 2), convex(minus, 0, 1, 2, minus, 4, -2, 5, -4, 4, -5, 2, -4, 0, -2, -1)},
		{api.Shape{Kind: api.Polygon, Radius: minus, Points: points(1, 0, 3, 1, 2, 2)}, api.Shape{Kind: api.Polygon, Radius: minus, Points: points(-1, 0, -2, 2, -3, 1)}},
	} {
		got, e := shape.Turned(c.s)
		isErr(t, e, api.OK, "Turned", i)
		isShape(t, got, c.want, "Turned", i)
	}
	// A polygon as vec.Cross rounds, but not the other way round.
	spoiled := convex(0x1.c69cd0eb77a6bp-03, 0x1.6bd2fc1a0611ap+00, 0x1.31f621e191cfep-02, 0x1.e9b806094357ep+00, 0x1.11168c63f7277p-01, 0x1.b51a1fc71b4cbp+01, 0x1.01725b1decd45p-02, 0x1.9c110dc12c36ep+00)
	isErr(t, shape.Check(spoiled), api.OK, "Check", spoiled)
	got, e := shape.Turned(spoiled)
	isErr(t, e, api.ErrPoly, "Turned", spoiled)
	isNothing(t, got, "Turned", spoiled)
}

func TestP7_8FarIsOfTheBox(t *testing.T) {
	overShapes(40000, func(_ *source, w api.Shape) {
		b, _ := shape.Box(w)
		right, _ := shape.Far(w, v(1, 0))
		up, _ := shape.Far(w, v(0, 1))
		left, _ := shape.Far(w, v(-1, 0))
		down, _ := shape.Far(w, v(0, -1))
		if right.X != b.High.X || up.Y != b.High.Y || left.X != b.Low.X || down.Y != b.Low.Y {
			t.Fatalf("the box of %v is %v, but Far tells %v, %v, %v, %v", w, b, right, up, left, down)
		}
	})
}

func TestP7_8HasItsPoints(t *testing.T) {
	overShapes(40000, func(_ *source, w api.Shape) {
		own := w.Points[:1]
		if w.Kind == api.Polygon {
			own = w.Points
		}
		for _, p := range own {
			has, e := shape.Has(w, p)
			isErr(t, e, api.OK, "Has", w, p)
			isBool(t, has, true, "Has", w, p)
		}
	})
}

func TestP7_8ComesBack(t *testing.T) {
	overShapes(40000, func(_ *source, w api.Shape) {
		home, e := shape.Put(w, frame.Home())
		isErr(t, e, api.OK, "Put", w)
		if !equalShape(home, w) {
			t.Fatalf("Put(%v) by Home is %v", w, home)
		}
		once, e := shape.Turned(w)
		if e != api.OK {
			return
		}
		twice, e := shape.Turned(once)
		isErr(t, e, api.OK, "Turned", once)
		if !equalShape(twice, w) {
			t.Fatalf("%v, turned twice, is %v", w, twice)
		}
	})
}

func TestP7_8FarIsNotBeyondReach(t *testing.T) {
	check := func(w api.Shape, way, from api.Vec) {
		t.Helper()
		far, _ := shape.Far(w, way)
		reach, e := shape.Reach(w, from)
		isErr(t, e, api.OK, "Reach", w, from)
		if length(less(far, from)) > reach+0x1p-20 {
			t.Fatalf("Far(%v, %v) is %v: farther from %v than %v", w, way, far, from, reach)
		}
	}
	overShapes(20000, func(s *source, w api.Shape) {
		from := s.place()
		check(w, s.place(), from)
		check(w, less(w.Points[0], from), from)
		check(w, v(math.Ldexp(s.plain(), -s.below(270)), math.Ldexp(s.plain(), -s.below(270))), from)
	})
	const top = 0x1p20
	for _, w := range []api.Shape{disc(top, top, -top), pill(top, -top, -top, top, top), convex(-top, -top, top, -top, top, top)} {
		for _, way := range []api.Vec{v(1, 0), v(0x1p-300, -0x1p-300), v(0, 0), v(top, 0x1p-300), v(-top, -top)} {
			for _, from := range []api.Vec{v(top, top), v(-top, top), v(0, 0), v(-top, -top)} {
				check(w, way, from)
			}
		}
	}
}

func checkScaled(t *testing.T, w api.Shape, p, way api.Vec, by float64) {
	t.Helper()
	big, bigP := scaled(w, by), v(p.X*by, p.Y*by)
	b, _ := shape.Box(w)
	bigB, e := shape.Box(big)
	isErr(t, e, api.OK, "Box", big)
	isBox(t, bigB, api.Box{Low: v(b.Low.X*by, b.Low.Y*by), High: v(b.High.X*by, b.High.Y*by)}, "Box", w, by)
	far, _ := shape.Far(w, way)
	bigFar, e := shape.Far(big, way)
	isErr(t, e, api.OK, "Far", big, way)
	isVec(t, bigFar, v(far.X*by, far.Y*by), "Far", w, way, by)
	reach, _ := shape.Reach(w, p)
	bigReach, e := shape.Reach(big, bigP)
	isErr(t, e, api.OK, "Reach", big, bigP)
	isFloat(t, bigReach, reach*by, "Reach", w, p, by)
	has, _ := shape.Has(w, p)
	bigHas, e := shape.Has(big, bigP)
	isErr(t, e, api.OK, "Has", big, bigP)
	isBool(t, bigHas, has, "Has", w, p, by)
}

func TestP7_8PowersOfTwo(t *testing.T) {
	count := map[uint8]int{}
	overShapes(40000, func(s *source, w api.Shape) {
		by := math.Ldexp(1, s.below(17)-8)
		if wantCheck(scaled(w, by)) != api.OK {
			return
		}
		count[w.Kind]++
		checkScaled(t, w, s.place(), s.place(), by)
		checkScaled(t, w, s.edgePlace(w), s.place(), by)
	})
	enough(t, count, 4000, api.Circle, api.Capsule, api.Polygon)
	for k := -8; k <= 8; k++ {
		for _, w := range []api.Shape{disc(3, 1, 2), pill(1, 0, 0, 4, 0), square()} {
			checkScaled(t, w, v(2, 1), v(-1, 3), math.Ldexp(1, k))
		}
	}
}

// roomy is a shape whose list has spare room on both sides, and the whole that it lies in.
func roomy(s api.Shape) (api.Shape, []api.Vec) {
	whole := slices.Concat(points(91, 92), s.Points, points(93, 94, 95, 96, 97, 98))
	s.Points = whole[1 : 1+len(s.Points)]
	return s, whole
}

// overwrite changes a list that was answered, its spare room too.
func overwrite(s api.Shape) {
	l := s.Points[:cap(s.Points)]
	for i := range l {
		l[i] = v(none, none)
	}
}

func TestMemory(t *testing.T) {
	s := source(11)
	for range 20000 {
		for _, w := range []api.Shape{s.shape(), s.spoiled()} {
			given, whole := roomy(w)
			kept := slices.Clone(whole)
			shape.Check(given)
			shape.Box(given)
			shape.Has(given, s.place())
			shape.Far(given, s.place())
			shape.Reach(given, s.place())
			turned, e := shape.Turned(given)
			put, _ := shape.Put(given, frame.Home())
			again, _ := shape.Put(given, frame.Home())
			overwrite(turned)
			overwrite(put)
			if !slices.EqualFunc(whole, kept, sameVec) {
				t.Fatalf("what was handed in, %v, was changed to %v", kept, whole)
			}
			if e == api.OK && !slices.Equal(again.Points, w.Points) {
				t.Fatalf("an answer was changed with another one: %v", again)
			}
		}
	}
	given := square()
	put, _ := shape.Put(given, frame.Home())
	turned, _ := shape.Turned(given)
	given.Points[0] = v(-9, -9)
	isShape(t, put, square(), "Put, when what it was made of was changed")
	isShape(t, turned, convex(minus, 0, minus, 2, -2, 2, -2, 0), "Turned, when what it was made of was changed")
}

func TestExamples(t *testing.T) {
	c, s, q := disc(3, 1, 2), pill(1, 0, 0, 4, 0), square()
	for i, x := range []struct {
		s api.Shape
		e api.Errno
	}{
		{c, api.OK}, {s, api.OK}, {q, api.OK}, {api.Shape{Radius: 1, Points: points(0, 0)}, api.ErrKind}, {disc(3, 1, 2, 1, 2), api.ErrShape}, {api.Shape{Kind: api.Polygon, Radius: 1, Points: q.Points}, api.ErrShape}, {convex(0, 2, 2, 2, 2, 0, 0, 0), api.ErrPoly},
		{disc(0, 1, 2), api.ErrReal}, {disc(inf, 1, 2), api.ErrReal}, {pill(1, 4, 0, 4, 0), api.ErrShape}, {convex(0, 0, 1, 0, none, 1), api.ErrReal},
	} {
		isErr(t, shape.Check(x.s), x.e, "Check", i)
	}
	put := func(s api.Shape, f api.Frame, want api.Shape, e api.Errno) {
		t.Helper()
		got, gotE := shape.Put(s, f)
		isErr(t, gotE, e, "Put", s, f)
		isShape(t, got, want, "Put", s, f)
	}
	put(s, at(1, 1, complex(0, 1)), pill(1, 1, 1, 1, 5), api.OK)
	put(q, at(0x1p41, 0, 1), api.Shape{}, api.ErrReal)
	put(q, at(0x1p40, 0, 1), api.Shape{}, api.ErrReal)
	put(scaled(q, 0x1p-29), at(0x1p30, 0, 1), api.Shape{}, api.ErrPoly)
	turned := func(s, want api.Shape) {
		t.Helper()
		got, e := shape.Turned(s)
		isErr(t, e, api.OK, "Turned", s)
		isShape(t, got, want, "Turned", s)
	}
	turned(s, pill(1, minus, 0, -4, 0))
	turned(q, convex(minus, 0, minus, 2, -2, 2, -2, 0))
}

func TestExamplesOfPlaces(t *testing.T) {
	c, s, q := disc(3, 1, 2), pill(1, 0, 0, 4, 0), square()
	for i, x := range []struct {
		s    api.Shape
		want api.Box
	}{{c, api.Box{Low: v(-2, -1), High: v(4, 5)}}, {s, api.Box{Low: v(-1, -1), High: v(5, 1)}}, {q, api.Box{Low: v(0, 0), High: v(2, 2)}}} {
		got, e := shape.Box(x.s)
		isErr(t, e, api.OK, "Box", i)
		isBox(t, got, x.want, "Box", i)
	}
	for i, x := range []struct {
		s    api.Shape
		p    api.Vec
		want bool
		e    api.Errno
	}{{c, v(4, 2), true, api.OK}, {s, v(2, 1), true, api.OK}, {s, v(2, 1.5), false, api.OK}, {q, v(2, 2), true, api.OK}, {q, v(none, 0), false, api.ErrReal}} {
		got, e := shape.Has(x.s, x.p)
		isErr(t, e, x.e, "Has", i)
		isBool(t, got, x.want, "Has", i)
	}
	for i, x := range []struct {
		s         api.Shape
		way, want api.Vec
	}{{c, v(0, -2), v(1, -1)}, {s, v(1, 0), v(5, 0)}, {s, v(0, 1), v(0, 1)}, {q, v(1, 1), v(2, 2)}, {c, v(0, 0), v(1, 2)}} {
		got, e := shape.Far(x.s, x.way)
		isErr(t, e, api.OK, "Far", i)
		isVec(t, got, x.want, "Far", i)
	}
	for i, x := range []struct {
		s    api.Shape
		from api.Vec
		want float64
	}{{s, v(0, 0), 5}, {q, v(0, 0), math.Sqrt(8)}, {c, v(1, 2), 3}} {
		got, e := shape.Reach(x.s, x.from)
		isErr(t, e, api.OK, "Reach", i)
		isFloat(t, got, x.want, "Reach", i)
	}
}
