package box_test

import (
	"math"
	"testing"

	"tumble/api"
	"tumble/box"
)

var (
	minus = math.Copysign(0, -1)
	none  = math.NaN()
	inf   = math.Inf(1)
)

const (
	most  = math.MaxFloat64
	least = math.SmallestNonzeroFloat64
)

func v(x, y float64) api.Vec { return api.Vec{X: x, Y: y} }

func four(a, b, c, d float64) api.Box { return api.Box{Low: v(a, b), High: v(c, d)} }

func floats(b api.Box) [4]float64 { return [4]float64{b.Low.X, b.Low.Y, b.High.X, b.High.Y} }

// The oracle rounds each operation by itself: a call that is not inlined can't be worked out as one with the next.
//
//go:noinline
func add(a, b float64) float64 { return a + b }

//go:noinline
func sub(a, b float64) float64 { return a - b }

//go:noinline
func mul(a, b float64) float64 { return a * b }

//go:noinline
func div(a, b float64) float64 { return a / b }

// same is told by bits, apart from what the package does.
func same(a, b float64) bool {
	if math.IsNaN(a) || math.IsNaN(b) {
		return math.IsNaN(a) && math.IsNaN(b)
	}
	return math.Float64bits(a) == math.Float64bits(b)
}

func sameBox(a, b api.Box) bool {
	for i, f := range floats(a) {
		if !same(f, floats(b)[i]) {
			return false
		}
	}
	return true
}

func isFloat(t *testing.T, got, want float64, call string, args ...any) {
	t.Helper()
	if !same(got, want) {
		t.Fatalf("%s%v is %v, not %v", call, args, got, want)
	}
}

func isBool(t *testing.T, got, want bool, call string, args ...any) {
	t.Helper()
	if got != want {
		t.Fatalf("%s%v is %v, not %v", call, args, got, want)
	}
}

func isBox(t *testing.T, got, want api.Box, call string, args ...any) {
	t.Helper()
	if !sameBox(got, want) {
		t.Fatalf("%s%v is %v, not %v", call, args, got, want)
	}
}

// lesser and greater are chapter 1's Least and Most, told once more: minus nought below nought, what is no number as none.
func lesser(a, b float64) float64 {
	switch {
	case math.IsNaN(a):
		return b
	case math.IsNaN(b) || a < b || a == b && math.Signbit(a):
		return a
	}
	return b
}

func greater(a, b float64) float64 {
	switch {
	case math.IsNaN(a):
		return b
	case math.IsNaN(b) || a > b || a == b && !math.Signbit(a):
		return a
	}
	return b
}

func joined(a, b api.Box) api.Box {
	return four(lesser(a.Low.X, b.Low.X), lesser(a.Low.Y, b.Low.Y), greater(a.High.X, b.High.X), greater(a.High.Y, b.High.Y))
}

func finite(a float64) bool { return !math.IsNaN(a) && !math.IsInf(a, 0) }

func mayBe(b api.Box) bool {
	for _, f := range floats(b) {
		if !finite(f) {
			return false
		}
	}
	return b.Low.X <= b.High.X && b.Low.Y <= b.High.Y
}

// Floats at which sums, orders and signs have their edges.
func edges() []float64 {
	return []float64{none, -inf, -most, -0x1p600, -3.7, -1, -least, minus, 0, least, 0.1, 1, 0x1p53, most, inf}
}

// source makes floats from a rule of whole numbers: the same ones in each run.
type source uint64

func (s *source) next() uint64 {
	*s = *s*6364136223846793005 + 1442695040888963407
	return uint64(*s >> 31)
}

func (s *source) below(n int) int { return int(s.next() % uint64(n)) }

// plain has all its bits in use, and is from some 2^-20 to 2^20.
func (s *source) plain() float64 {
	whole := int64(s.next()<<20^s.next())&(1<<53-1) - 1<<52
	return math.Ldexp(float64(whole), s.below(40)-72)
}

// any is an edge as often as it is plain.
func (s *source) any() float64 {
	if l := edges(); s.below(2) == 0 {
		return l[s.below(len(l))]
	}
	return s.plain()
}

// few are from few floats, so that ends often meet, noughts among them.
func (s *source) few() float64 {
	return []float64{none, -inf, -2, -1, -1, minus, 0, 1, 1, 2, 3, inf}[s.below(12)]
}

func (s *source) place(part func() float64) api.Vec { return v(part(), part()) }

func (s *source) box(part func() float64) api.Box {
	return api.Box{Low: s.place(part), High: s.place(part)}
}

// right is a box that may be.
func (s *source) right(part func() float64) api.Box {
	for {
		b := s.box(part)
		if b.Low.X > b.High.X {
			b.Low.X, b.High.X = b.High.X, b.Low.X
		}
		if b.Low.Y > b.High.Y {
			b.Low.Y, b.High.Y = b.High.Y, b.Low.Y
		}
		if mayBe(b) {
			return b
		}
	}
}

// overBoxes hands over boxes of any floats, of few and of plain ones, such as may be and such as may not.
func overBoxes(f func(s *source, part func() float64, a, b api.Box)) {
	s := source(5)
	for range 20000 {
		for _, part := range []func() float64{s.any, s.few, s.plain} {
			f(&s, part, s.box(part), s.box(part))
			f(&s, part, s.right(part), s.right(part))
			f(&s, part, s.right(part), s.box(part))
		}
	}
}

func TestP5_1Check(t *testing.T) {
	right := func(b api.Box) {
		t.Helper()
		want := api.ErrBox
		if mayBe(b) {
			want = api.OK
		}
		if got := box.Check(b); got != want {
			t.Fatalf("Check(%v) is %d, not %d", b, got, want)
		}
	}
	for _, low := range edges() {
		for _, high := range edges() {
			right(four(low, 0, high, 1))
			right(four(0, low, 1, high))
			right(four(low, low, high, high))
			right(four(low, high, high, low))
		}
	}
	overBoxes(func(_ *source, _ func() float64, a, b api.Box) { right(a); right(b) })
}

func TestP5_1CheckEdges(t *testing.T) {
	for i, c := range []struct {
		b    api.Box
		want api.Errno
	}{
		{four(0, 0, minus, minus), api.OK}, {four(minus, minus, 0, 0), api.OK}, {four(7, -7, 7, -7), api.OK},
		{four(-most, -most, most, most), api.OK}, {four(0, 0, least, least), api.OK},
		{four(least, 0, 0, 0), api.ErrBox}, {four(0, least, 0, 0), api.ErrBox}, {four(0, 1, 1, 0), api.ErrBox},
		{four(-inf, 0, 1, 1), api.ErrBox}, {four(0, -inf, 1, 1), api.ErrBox}, {four(0, 0, inf, 1), api.ErrBox}, {four(0, 0, 1, inf), api.ErrBox},
		{four(none, 0, 1, 1), api.ErrBox}, {four(0, none, 1, 1), api.ErrBox}, {four(0, 0, none, 1), api.ErrBox}, {four(0, 0, 1, none), api.ErrBox},
	} {
		if got := box.Check(c.b); got != c.want {
			t.Errorf("%d: Check(%v) is %d, not %d", i, c.b, got, c.want)
		}
	}
}

func wantOf(l []api.Vec) api.Box {
	b := api.Box{Low: l[0], High: l[0]}
	for _, p := range l {
		b = joined(b, api.Box{Low: p, High: p})
	}
	return b
}

func TestP5_2Of(t *testing.T) {
	s := source(2)
	for i := range 60000 {
		part := []func() float64{s.any, s.few, s.plain}[i%3]
		l := make([]api.Vec, 1+s.below(6))
		for k := range l {
			l[k] = s.place(part)
		}
		kept := append([]api.Vec(nil), l...)
		got, is := box.Of(l)
		isBool(t, is, true, "Of", l)
		isBox(t, got, wantOf(kept), "Of", kept)
		for k := range l {
			if !same(l[k].X, kept[k].X) || !same(l[k].Y, kept[k].Y) {
				t.Fatalf("Of has changed what it was handed: %v, not %v", l, kept)
			}
		}
	}
}

func TestP5_2OfEdges(t *testing.T) {
	for i, c := range []struct {
		l    []api.Vec
		want api.Box
		is   bool
	}{
		{nil, api.Box{}, false}, {[]api.Vec{}, api.Box{}, false}, {make([]api.Vec, 0, 3), api.Box{}, false},
		{[]api.Vec{v(3, -4)}, four(3, -4, 3, -4), true}, {[]api.Vec{v(minus, 0)}, four(minus, 0, minus, 0), true},
		{[]api.Vec{v(none, 1)}, four(none, 1, none, 1), true}, {[]api.Vec{v(none, 1), v(2, none)}, four(2, 1, 2, 1), true},
		{[]api.Vec{v(1, none), v(none, none), v(-1, 5)}, four(-1, 5, 1, 5), true},
		{[]api.Vec{v(minus, 0), v(0, minus)}, four(minus, minus, 0, 0), true},
		{[]api.Vec{v(inf, 1), v(0, -inf)}, four(0, -inf, inf, 1), true},
	} {
		got, is := box.Of(c.l)
		isBool(t, is, c.is, "Of", i, c.l)
		isBox(t, got, c.want, "Of", i, c.l)
	}
	long := make([]api.Vec, 1<<17)
	for i := range long {
		long[i] = v(float64(i), float64(-i))
	}
	if got, is := box.Of(long); !is || got != four(0, 1-1<<17, 1<<17-1, 0) {
		t.Errorf("Of a long list is %v, %v", got, is)
	}
}

func TestP5_3Join(t *testing.T) {
	overBoxes(func(_ *source, _ func() float64, a, b api.Box) {
		isBox(t, box.Join(a, b), joined(a, b), "Join", a, b)
	})
	isBox(t, box.Join(four(0, minus, 0, minus), four(minus, 0, minus, 0)), four(minus, minus, 0, 0), "Join of noughts")
	isBox(t, box.Join(four(none, 1, 2, none), four(0, none, none, 4)), four(0, 1, 2, 4), "Join of what is no number")
	isBox(t, box.Join(four(none, none, none, none), four(none, 1, none, 1)), four(none, 1, none, 1), "Join of what is no number")
	isBox(t, box.Join(four(3, 3, 1, 1), four(2, 2, 0, 4)), four(2, 2, 1, 4), "Join of boxes that may not be")
}

func wantOver(a, b api.Box) bool {
	return a.Low.X <= b.High.X && b.Low.X <= a.High.X && a.Low.Y <= b.High.Y && b.Low.Y <= a.High.Y
}

func TestP5_3Meet(t *testing.T) {
	overBoxes(func(_ *source, _ func() float64, a, b api.Box) {
		var want api.Box
		if wantOver(a, b) {
			want = four(greater(a.Low.X, b.Low.X), greater(a.Low.Y, b.Low.Y), lesser(a.High.X, b.High.X), lesser(a.High.Y, b.High.Y))
		}
		got, is := box.Meet(a, b)
		isBool(t, is, wantOver(a, b), "Meet", a, b)
		isBox(t, got, want, "Meet", a, b)
	})
	got, is := box.Meet(four(minus, minus, 0, 0), four(0, 0, minus, minus))
	isBool(t, is, true, "Meet of noughts")
	isBox(t, got, four(0, 0, minus, minus), "Meet of noughts")
	got, is = box.Meet(four(0, 0, 1, 1), four(0, 0, none, 1))
	isBool(t, is, false, "Meet of what is no number")
	isBox(t, got, api.Box{}, "Meet of what is no number")
	got, is = box.Meet(four(-inf, 0, inf, 1), four(-1, -inf, 2, inf))
	isBool(t, is, true, "Meet of what is infinite")
	isBox(t, got, four(-1, 0, 2, 1), "Meet of what is infinite")
}

func TestP5_4OverInHas(t *testing.T) {
	overBoxes(func(s *source, part func() float64, a, b api.Box) {
		isBool(t, box.Over(a, b), wantOver(a, b), "Over", a, b)
		in := b.Low.X <= a.Low.X && a.High.X <= b.High.X && b.Low.Y <= a.Low.Y && a.High.Y <= b.High.Y
		isBool(t, box.In(a, b), in, "In", a, b)
		p := s.place(part)
		has := a.Low.X <= p.X && p.X <= a.High.X && a.Low.Y <= p.Y && p.Y <= a.High.Y
		isBool(t, box.Has(a, p), has, "Has", a, p)
	})
}

func TestP5_4Ends(t *testing.T) {
	unit := four(0, 0, 1, 1)
	for _, b := range []api.Box{four(1, 0, 2, 1), four(-1, 0, 0, 1), four(0, 1, 1, 2), four(0, -1, 1, 0), four(-1, 1, minus, 1)} {
		isBool(t, box.Over(unit, b), true, "Over where ends meet", b)
		isBool(t, box.Over(b, unit), true, "Over where ends meet", b)
	}
	past, ahead := math.Nextafter(1, 2), -least
	for _, b := range []api.Box{four(past, 0, 2, 1), four(-1, 0, ahead, 1), four(0, past, 1, 2), four(0, -1, 1, ahead)} {
		isBool(t, box.Over(unit, b), false, "Over where ends do not", b)
		isBool(t, box.Over(b, unit), false, "Over where ends do not", b)
	}
	for _, b := range []api.Box{four(ahead, 0, 1, 1), four(0, ahead, 1, 1), four(0, 0, past, 1), four(0, 0, 1, past)} {
		isBool(t, box.In(unit, b), true, "In a greater one", b)
		isBool(t, box.In(b, unit), false, "In a lesser one", b)
	}
	isBool(t, box.In(unit, four(minus, minus, 1, 1)) && box.In(four(minus, minus, 1, 1), unit), true, "In with noughts")
	for _, p := range []api.Vec{v(0, 0), v(minus, minus), v(1, 1), v(0, 1), v(1, minus), v(0.5, 0.5)} {
		isBool(t, box.Has(unit, p), true, "Has", p)
	}
	for _, p := range []api.Vec{v(ahead, 0), v(0, ahead), v(past, 0), v(0, past), v(none, 0), v(0, none), v(inf, 0), v(0, -inf)} {
		isBool(t, box.Has(unit, p), false, "Has", p)
	}
}

func TestP5_4NoNumbers(t *testing.T) {
	wide := four(-inf, -inf, inf, inf)
	isBool(t, box.Over(wide, wide) && box.In(wide, wide) && box.Has(wide, v(inf, -inf)), true, "a box without ends")
	for i := range 4 {
		l := floats(wide)
		l[i] = none
		b := four(l[0], l[1], l[2], l[3])
		isBool(t, box.Over(wide, b) || box.Over(b, wide), false, "Over", b)
		isBool(t, box.In(wide, b) || box.In(b, wide), false, "In", b)
		isBool(t, box.Has(b, v(0, 0)), false, "Has", b)
	}
}

func TestP5_5Grow(t *testing.T) {
	overBoxes(func(s *source, part func() float64, a, _ api.Box) {
		by := part()
		want := four(sub(a.Low.X, by), sub(a.Low.Y, by), add(a.High.X, by), add(a.High.Y, by))
		isBox(t, box.Grow(a, by), want, "Grow", a, by)
	})
	isBox(t, box.Grow(four(minus, minus, minus, minus), 0), four(minus, minus, 0, 0), "Grow of noughts")
	isBox(t, box.Grow(four(minus, minus, minus, minus), minus), four(0, 0, minus, minus), "Grow of noughts")
	isBox(t, box.Grow(four(0, 0, 1, 2), -1), four(1, 1, 0, 1), "Grow by less than nought")
	isBox(t, box.Grow(four(0, 0, 1, 1), none), four(none, none, none, none), "Grow by no number")
	isBox(t, box.Grow(four(inf, -most, most, inf), inf), four(none, -inf, inf, inf), "Grow without end")
	isBox(t, box.Grow(four(0x1p53, 0, 1, 1), 1), four(0x1p53-1, -1, 2, 2), "Grow is rounded")
}

func TestP5_5Moved(t *testing.T) {
	overBoxes(func(s *source, part func() float64, a, _ api.Box) {
		way, want := s.place(part), a
		if way.X < 0 {
			want.Low.X = add(a.Low.X, way.X)
		} else {
			want.High.X = add(a.High.X, way.X)
		}
		if way.Y < 0 {
			want.Low.Y = add(a.Low.Y, way.Y)
		} else {
			want.High.Y = add(a.High.Y, way.Y)
		}
		isBox(t, box.Moved(a, way), want, "Moved", a, way)
	})
	noughts := four(minus, minus, minus, minus)
	isBox(t, box.Moved(noughts, v(0, minus)), four(minus, minus, 0, minus), "Moved by noughts")
	isBox(t, box.Moved(noughts, v(-1, 1)), four(-1, minus, minus, 1), "Moved: the other end keeps its nought")
	isBox(t, box.Moved(four(0, 0, 1, 1), v(none, -least)), four(0, -least, none, 1), "Moved by no number")
	isBox(t, box.Moved(four(0, 0, 1, 1), v(-inf, inf)), four(-inf, 0, 1, inf), "Moved without end")
	isBox(t, box.Moved(four(inf, 0, -inf, 1), v(-inf, -1)), four(none, -1, -inf, 1), "Moved of what is infinite")
}

func TestP5_6SizeArea(t *testing.T) {
	overBoxes(func(_ *source, _ func() float64, a, _ api.Box) {
		w, h := sub(a.High.X, a.Low.X), sub(a.High.Y, a.Low.Y)
		isFloat(t, box.Size(a), add(w, h), "Size", a)
		isFloat(t, box.Area(a), mul(w, h), "Area", a)
	})
	for i, c := range []struct {
		b          api.Box
		size, area float64
	}{
		{four(1, 1, 1, 1), 0, 0}, {four(3, 0, 1, 5), 3, -10}, {four(3, 3, 1, 1), -4, 4}, {four(0, 0, minus, minus), minus, 0}, {four(minus, minus, 0, 0), 0, 0},
		{four(0, 0, inf, 0), inf, none}, {four(inf, 0, inf, 1), none, none}, {four(-most, 0, most, 0), inf, none},
		{four(-1, 0, 0x1p53, 0x1p-53), 0x1p53, 1}, {four(0, 2, 0, -1), -3, minus}, {four(none, 0, 1, 1), none, none}, {four(0, none, 0, 1), none, none},
	} {
		isFloat(t, box.Size(c.b), c.size, "Size", i, c.b)
		isFloat(t, box.Area(c.b), c.area, "Area", i, c.b)
	}
}

// wantAlong goes by P5.7's words, for one of both axes.
func wantAlong(low, high, from, way, s, t float64) (float64, float64, bool) {
	if way == 0 || math.IsNaN(way) {
		return s, t, from >= low && from <= high
	}
	p, q := div(sub(low, from), way), div(sub(high, from), way)
	if p > q {
		p, q = q, p
	}
	if p > s {
		s = p
	}
	if q < t {
		t = q
	}
	if s > t || math.IsNaN(p) || math.IsNaN(q) {
		return s, t, false
	}
	return s, t, true
}

func wantRay(b api.Box, from, way api.Vec) (float64, bool) {
	s, t, is := wantAlong(b.Low.X, b.High.X, from.X, way.X, 0, 1)
	if is {
		s, _, is = wantAlong(b.Low.Y, b.High.Y, from.Y, way.Y, s, t)
	}
	if !is {
		return 0, false
	}
	return s, true
}

func isRay(t *testing.T, b api.Box, from, way api.Vec, want float64, is bool) {
	t.Helper()
	got, met := box.Ray(b, from, way)
	if met != is || !same(got, want) {
		t.Fatalf("Ray(%v, %v, %v) is %v, %v, not %v, %v", b, from, way, got, met, want, is)
	}
}

func TestP5_7Ray(t *testing.T) {
	met := 0
	overBoxes(func(s *source, part func() float64, a, b api.Box) {
		from, way := s.place(part), s.place(part)
		want, is := wantRay(a, from, way)
		isRay(t, a, from, way, want, is)
		// From a place of one box towards one of the other, so that most of the ways meet.
		from, way = b.Low, v(sub(a.High.X, b.Low.X), sub(a.High.Y, b.Low.Y))
		want, is = wantRay(a, from, way)
		isRay(t, a, from, way, want, is)
		if is && want > 0 && want < 1 {
			met++
		}
	})
	if met < 10000 {
		t.Errorf("only %d ways enter a box on their way", met)
	}
}

func TestP5_7RayAlongOneAxis(t *testing.T) {
	unit := four(0, 0, 1, 1)
	for _, c := range []struct {
		from, way float64
		want      float64
		is        bool
	}{
		{-1, 4, 0.25, true}, {-1, 1, 1, true}, {-1, 0.5, 0, false}, {-1, -4, 0, false}, {2, -4, 0.25, true}, {2, -1, 1, true}, {2, 4, 0, false},
		{0.5, 9, 0, true}, {0.5, -9, 0, true}, {0, -1, 0, true}, {1, 1, 0, true}, {0, 1, 0, true}, {1, -1, 0, true}, {minus, -1, 0, true},
		{0.5, 0, 0, true}, {0, 0, 0, true}, {1, minus, 0, true}, {minus, 0, 0, true}, {-least, 0, 0, false}, {1.5, minus, 0, false},
		{0.5, none, 0, true}, {1, none, 0, true}, {2, none, 0, false}, {none, none, 0, false}, {none, 0, 0, false}, {none, 1, 0, false},
		{0.5, inf, 0, true}, {0.5, -inf, 0, true}, {-1, inf, 0, true}, {inf, 1, 0, false}, {-inf, 1, 0, false}, {-inf, inf, 0, false},
		{-1, least, 0, false}, {0, least, 0, true}, {-most, most, 1, true}, {-most, inf, 0, true},
	} {
		for _, still := range []float64{0, 0.5, 1} {
			isRay(t, unit, v(c.from, still), v(c.way, 0), c.want, c.is)
			isRay(t, unit, v(still, c.from), v(0, c.way), c.want, c.is)
		}
		for _, out := range []float64{-1, 1.5, none} {
			isRay(t, unit, v(c.from, out), v(c.way, 0), 0, false)
			isRay(t, unit, v(out, c.from), v(0, c.way), 0, false)
		}
	}
}

func TestP5_7RayByBothAxes(t *testing.T) {
	unit := four(0, 0, 1, 1)
	isRay(t, unit, v(-1, -2), v(4, 4), 0.5, true)
	isRay(t, unit, v(-2, -1), v(4, 4), 0.5, true)
	isRay(t, unit, v(-1, 2), v(4, -4), 0.25, true)
	isRay(t, unit, v(-1, 0), v(2, 2), 0.5, true)
	isRay(t, unit, v(-1, 0.5), v(2, 2), 0, false)
	isRay(t, unit, v(0.5, -1), v(2, 2), 0, false)
	isRay(t, unit, v(-2, 0), v(3, -1), 0, false)
	isRay(t, unit, v(0.5, 0.5), v(none, none), 0, true)
	isRay(t, unit, v(0.5, 2), v(none, none), 0, false)
}

func TestP5_7RayOfBoxesThatMayNotBe(t *testing.T) {
	isRay(t, four(1, 0, 0, 1), v(-1, 0.5), v(4, 0), 0.25, true)
	isRay(t, four(1, 0, 0, 1), v(0.5, 0.5), v(0, 1), 0, false)
	isRay(t, four(-inf, -inf, inf, inf), v(0, 0), v(1, -1), 0, true)
	isRay(t, four(-inf, 0, 0, 1), v(4, 0.5), v(-8, 0), 0.5, true)
	isRay(t, four(-inf, 0, inf, 1), v(inf, 0), v(1, 0), 0, false)
	for i := range 4 {
		l := [4]float64{0, 0, 1, 1}
		l[i] = none
		b := four(l[0], l[1], l[2], l[3])
		isRay(t, b, v(0.5, 0.5), v(1, 1), 0, false)
		isRay(t, b, v(-1, -1), v(4, 4), 0, false)
		isRay(t, b, v(0.5, 0.5), v(0, 0), 0, false)
	}
}

// smallBoxes are all boxes that may be with ends of few floats.
func smallBoxes() []api.Box {
	ends := []float64{-1, minus, 0, 1.5, 2}
	var l []api.Box
	for _, a := range ends {
		for _, b := range ends {
			for _, c := range ends {
				for _, d := range ends {
					if a <= c && b <= d {
						l = append(l, four(a, b, c, d))
					}
				}
			}
		}
	}
	return l
}

// smallPlaces are the places at which those boxes can differ.
func smallPlaces() []api.Vec {
	parts := []float64{-2, -1, -0.5, minus, 0, 0.5, 1.5, 1.75, 2, 3}
	var l []api.Vec
	for _, x := range parts {
		for _, y := range parts {
			l = append(l, v(x, y))
		}
	}
	return l
}

func has(b api.Box, p api.Vec) bool {
	return b.Low.X <= p.X && p.X <= b.High.X && b.Low.Y <= p.Y && p.Y <= b.High.Y
}

// between tells whether a place is neither ahead of both boxes nor behind both, along either axis.
func between(a, b api.Box, p api.Vec) bool {
	x := (p.X >= a.Low.X || p.X >= b.Low.X) && (p.X <= a.High.X || p.X <= b.High.X)
	y := (p.Y >= a.Low.Y || p.Y >= b.Low.Y) && (p.Y <= a.High.Y || p.Y <= b.High.Y)
	return x && y
}

func TestP5_8Places(t *testing.T) {
	places := smallPlaces()
	for _, a := range smallBoxes() {
		for _, b := range smallBoxes() {
			join := box.Join(a, b)
			meet, is := box.Meet(a, b)
			together, all := false, true
			for _, p := range places {
				both := has(a, p) && has(b, p)
				together = together || both
				all = all && (!has(a, p) || has(b, p))
				if is && box.Has(meet, p) != both {
					t.Fatalf("Meet(%v, %v) and the place %v", a, b, p)
				}
				if box.Has(join, p) != between(a, b, p) {
					t.Fatalf("Join(%v, %v) and the place %v", a, b, p)
				}
			}
			isBool(t, is, together, "Meet", a, b)
			isBool(t, box.Over(a, b), together, "Over", a, b)
			isBool(t, box.In(a, b), all, "In", a, b)
		}
	}
}

func TestP5_8JoinMeet(t *testing.T) {
	check := func(a, b api.Box) {
		join := box.Join(a, b)
		isBox(t, join, box.Join(b, a), "Join in either order", a, b)
		isBool(t, box.In(a, join) && box.In(b, join) && box.Check(join) == api.OK, true, "both lie in Join", a, b)
		isBool(t, box.Over(a, b), box.Over(b, a), "Over both ways", a, b)
		if meet, is := box.Meet(a, b); is {
			isBool(t, box.Check(meet) == api.OK && box.In(meet, a) && box.In(meet, b), true, "Meet lies in both", a, b)
		}
	}
	for _, a := range smallBoxes() {
		for _, b := range smallBoxes() {
			check(a, b)
		}
	}
	s := source(8)
	for range 40000 {
		for _, part := range []func() float64{s.any, s.few, s.plain} {
			check(s.right(part), s.right(part))
		}
	}
}

func TestP5_8JoinIsTheLeast(t *testing.T) {
	l := smallBoxes()
	for _, a := range l {
		for _, b := range l {
			join := box.Join(a, b)
			for _, c := range l {
				if box.In(a, c) && box.In(b, c) && !box.In(join, c) {
					t.Fatalf("%v and %v lie in %v, Join %v does not", a, b, c, join)
				}
			}
		}
	}
}

// small is a float as P5.9 speaks of it, often at its bounds.
func (s *source) small() float64 {
	l := []float64{0, minus, 0x1p-20, -0x1p-20, 0x1p20, -0x1p20, 1, -1, 0.5, 3}
	switch k := s.below(3 * len(l)); {
	case k < len(l):
		return l[k]
	default:
		sign := float64(1 - 2*s.below(2))
		return sign * math.Ldexp(1+float64(s.next()&(1<<30-1))/(1<<30), s.below(40)-20)
	}
}

// rays hands over boxes that may be, places and ways of small floats, such as meet and such as barely do or don't.
func rays(n int, f func(b api.Box, from, way api.Vec)) {
	s := source(9)
	small := func(a api.Vec) bool {
		ok := func(x float64) bool { x = math.Abs(x); return x == 0 || x >= 0x1p-20 && x <= 0x1p20 }
		return ok(a.X) && ok(a.Y)
	}
	try := func(b api.Box, from, way api.Vec) {
		if small(from) && small(way) {
			f(b, from, way)
		}
	}
	for range n {
		for _, part := range []func() float64{s.small, s.plain, s.any} {
			b, from := s.right(part), s.place(s.small)
			try(b, from, s.place(s.small))
			// Towards a corner, just so far, or twice as far.
			to := v([]float64{b.Low.X, b.High.X}[s.below(2)], []float64{b.Low.Y, b.High.Y}[s.below(2)])
			way := v(to.X-from.X, to.Y-from.Y)
			try(b, from, way)
			try(b, from, v(2*way.X, 2*way.Y))
			// Through a place within.
			in := v(b.Low.X/2+b.High.X/2, b.Low.Y/2+b.High.Y/2)
			try(b, from, v(1.5*(in.X-from.X), 1.5*(in.Y-from.Y)))
			try(b, v(in.X, from.Y), v(0, 2*(in.Y-from.Y)))
		}
	}
}

func along(from, way api.Vec, t float64) api.Vec {
	return v(add(from.X, mul(t, way.X)), add(from.Y, mul(t, way.Y)))
}

func TestP5_9Ray(t *testing.T) {
	met, missed := 0, 0
	rays(20000, func(b api.Box, from, way api.Vec) {
		s, is := box.Ray(b, from, way)
		if is {
			met++
			if p := along(from, way, s); !(s >= 0 && s <= 1) || !has(box.Grow(b, 0x1p-20), p) {
				t.Fatalf("Ray(%v, %v, %v) is %v: the place %v is not in the box", b, from, way, s, p)
			}
			return
		}
		missed++
		isFloat(t, s, 0, "Ray beside false", b, from, way)
		lesser := box.Grow(b, -0x1p-20)
		for i := range 64 {
			if p := along(from, way, (float64(i)+0.5)/64); has(lesser, p) {
				t.Fatalf("Ray(%v, %v, %v) is false: the place %v is in the box", b, from, way, p)
			}
		}
	})
	if met < 20000 || missed < 20000 {
		t.Errorf("%d met, %d missed: too few of one", met, missed)
	}
}

func scaled(a api.Vec, by float64) api.Vec { return v(a.X*by, a.Y*by) }

func scaledBox(b api.Box, by float64) api.Box {
	return api.Box{Low: scaled(b.Low, by), High: scaled(b.High, by)}
}

func checkScaled(t *testing.T, a, b api.Box, p, way api.Vec, by float64) {
	t.Helper()
	bigA, bigB, bigP, bigWay := scaledBox(a, by), scaledBox(b, by), scaled(p, by), scaled(way, by)
	isBox(t, box.Join(bigA, bigB), scaledBox(box.Join(a, b), by), "Join", a, b, by)
	meet, is := box.Meet(a, b)
	bigMeet, bigIs := box.Meet(bigA, bigB)
	isBool(t, bigIs, is, "Meet", a, b, by)
	isBox(t, bigMeet, scaledBox(meet, by), "Meet", a, b, by)
	of, _ := box.Of([]api.Vec{p, way, a.Low})
	bigOf, _ := box.Of([]api.Vec{bigP, bigWay, bigA.Low})
	isBox(t, bigOf, scaledBox(of, by), "Of", p, way, a.Low, by)
	isBox(t, box.Grow(bigA, bigP.X), scaledBox(box.Grow(a, p.X), by), "Grow", a, p.X, by)
	isBox(t, box.Moved(bigA, bigWay), scaledBox(box.Moved(a, way), by), "Moved", a, way, by)
	isFloat(t, box.Size(bigA), box.Size(a)*by, "Size", a, by)
	isFloat(t, box.Area(bigA), box.Area(a)*by*by, "Area", a, by)
	isBool(t, box.Over(bigA, bigB), box.Over(a, b), "Over", a, b, by)
	isBool(t, box.In(bigA, bigB), box.In(a, b), "In", a, b, by)
	isBool(t, box.Has(bigA, bigP), box.Has(a, p), "Has", a, p, by)
	s, is := box.Ray(a, p, way)
	isRay(t, bigA, bigP, bigWay, s, is)
	isBool(t, box.Check(bigA) == box.Check(a), true, "Check", a, by)
}

func TestP5_10PowersOfTwo(t *testing.T) {
	s := source(10)
	for _, by := range []float64{2, 0.5, 4, 0x1p40, 0x1p-40, 0x1p300, 0x1p-300} {
		for range 4000 {
			for _, part := range []func() float64{s.plain, s.small} {
				a := s.right(part)
				way := s.place(part)
				checkScaled(t, a, s.right(part), s.place(part), way, by)
				checkScaled(t, a, s.box(part), v(a.Low.X-way.X/2, a.High.Y-way.Y/2), way, by)
			}
		}
	}
}

func TestExamples(t *testing.T) {
	a := four(0, 0, 1, 1)
	for _, c := range []struct {
		b    api.Box
		want api.Errno
	}{{a, api.OK}, {four(1, 0, 0, 1), api.ErrBox}, {four(0, 0, 0, 0), api.OK}, {four(0, none, 1, 1), api.ErrBox}} {
		if got := box.Check(c.b); got != c.want {
			t.Errorf("Check(%v) is %d, not %d", c.b, got, c.want)
		}
	}
	of := func(is bool, want api.Box, l ...api.Vec) {
		t.Helper()
		got, was := box.Of(l)
		isBool(t, was, is, "Of", l)
		isBox(t, got, want, "Of", l)
	}
	of(true, four(1, -2, 3, 5), v(1, 5), v(3, -2), v(2, 0))
	of(false, api.Box{})
	of(true, four(minus, 0, 0, 1), v(0, 0), v(minus, 1))
	meet := func(a, b, want api.Box, is bool) {
		t.Helper()
		got, was := box.Meet(a, b)
		isBool(t, was, is, "Meet", a, b)
		isBox(t, got, want, "Meet", a, b)
	}
	isBox(t, box.Join(a, four(2, -1, 3, 0)), four(0, -1, 3, 1), "Join")
	meet(four(0, 0, 2, 2), four(1, 1, 3, 3), four(1, 1, 2, 2), true)
	meet(a, four(1, 1, 2, 2), four(1, 1, 1, 1), true)
	meet(a, four(2, 0, 3, 1), api.Box{}, false)
	isBool(t, box.Over(a, four(1, 1, 2, 2)), true, "Over")
	isBool(t, box.Over(a, four(none, 0, 2, 2)), false, "Over")
	isBool(t, box.In(a, four(0, 0, 1, 2)), true, "In")
	isBool(t, box.In(a, four(0, 0.5, 1, 2)), false, "In")
	isBool(t, box.Has(a, v(1, 0)), true, "Has")
	isBox(t, box.Grow(a, 0.5), four(-0.5, -0.5, 1.5, 1.5), "Grow")
	isBox(t, box.Moved(a, v(2, -1)), four(0, -1, 3, 1), "Moved")
	isFloat(t, box.Size(four(0, 0, 2, 3)), 5, "Size")
	isFloat(t, box.Area(four(0, 0, 2, 3)), 6, "Area")
	isRay(t, a, v(-1, 0.5), v(4, 0), 0.25, true)
	isRay(t, a, v(0.5, 0.5), v(9, 9), 0, true)
	isRay(t, a, v(-1, 0.5), v(0.5, 0), 0, false)
	isRay(t, a, v(2, 2), v(-1, -1), 1, true)
	isRay(t, a, v(0.5, 2), v(0, 1), 0, false)
}
