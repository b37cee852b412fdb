package impact_test

import (
	"fmt"
	"math"
	"slices"
	"testing"

	"tumble/api"
	"tumble/body"
	"tumble/frame"
	"tumble/impact"
	"tumble/near"
	"tumble/shape"
	"tumble/turn"
)

// What follows says the chapter's words once more, one by one. It rounds each operation by itself: a call that is not inlined can't be worked out as one with the next.
//
//go:noinline
func add(a, b float64) float64 { return a + b }

//go:noinline
func sub(a, b float64) float64 { return a - b }

//go:noinline
func mul(a, b float64) float64 { return a * b }

func wantFrame(f, to api.Frame, part float64) api.Frame {
	mid := func(a, b float64) float64 { return add(a, mul(part, sub(b, a))) }
	w := api.Frame{At: v(mid(f.At.X, to.At.X), mid(f.At.Y, to.At.Y)), Turn: f.Turn}
	if q, is := turn.Unit(complex(mid(real(f.Turn), real(to.Turn)), mid(imag(f.Turn), imag(to.Turn)))); is {
		w.Turn = q
	}
	return w
}

// isTouch tells whether a touches b at a part of its way.
func isTouch(a, b api.Shape, f, g, to api.Frame, part float64) bool {
	goes, e := shape.Put(a, wantFrame(f, to, part))
	if e != api.OK {
		return false
	}
	stays, e := shape.Put(b, g)
	if e != api.OK {
		return false
	}
	over, e := near.Over(goes, stays)
	return e == api.OK && over
}

func wantTime(a, b api.Shape, f, g, to api.Frame) (float64, bool) {
	k := 0
	for ; !isTouch(a, b, f, g, to, float64(k)/64); k++ {
		if k == 64 {
			return 0, false
		}
	}
	if k == 0 {
		return 0, true
	}
	low, high := float64(k-1)/64, float64(k)/64
	for done := 0; ; done++ {
		m := (low + high) / 2
		if m == low || m == high || done == 60 {
			return low, true
		}
		if isTouch(a, b, f, g, to, m) {
			high = m
		} else {
			low = m
		}
	}
}

func wantBody(b api.Body, to api.Frame, others []api.Body) float64 {
	parts := []float64{1}
	for _, o := range others {
		if o.Kind != 1 || body.Wild(o) {
			continue
		}
		for _, p := range b.Parts {
			for _, q := range o.Parts {
				if p.Sensor || q.Sensor || p.Layer&q.Mask == 0 || q.Layer&p.Mask == 0 {
					continue
				}
				part, is, e := impact.Time(p.Shape, q.Shape, b.Frame, o.Frame, to)
				if e == api.OK && is && !isTouch(p.Shape, q.Shape, b.Frame, o.Frame, to, 0) {
					parts = append(parts, part)
				}
			}
		}
	}
	return slices.Min(parts)
}

func isFrame(t *testing.T, f, to api.Frame, part float64, want api.Frame) {
	t.Helper()
	got, e := impact.Frame(f, to, part)
	if e != api.OK || !sameFrame(got, want) {
		t.Fatalf("Frame(%v, %v, %v) is %v %d, not %v", f, to, part, got, e, want)
	}
}

func noFrame(t *testing.T, f, to api.Frame, part float64, want api.Errno) {
	t.Helper()
	got, e := impact.Frame(f, to, part)
	if e != want || !sameFrame(got, api.Frame{}) {
		t.Fatalf("Frame(%v, %v, %v) is %v %d, not %d", f, to, part, got, e, want)
	}
}

func timeOf(t *testing.T, a, b api.Shape, f, g, to api.Frame) (float64, bool) {
	t.Helper()
	part, is, e := impact.Time(a, b, f, g, to)
	isErr(t, e, api.OK, "Time", a, b, f, g, to)
	return part, is
}

func isTime(t *testing.T, a, b api.Shape, f, g, to api.Frame, want float64, meets bool) {
	t.Helper()
	if part, is := timeOf(t, a, b, f, g, to); is != meets || !same(part, want) {
		t.Fatalf("Time(%v, %v, %v, %v, %v) is %v %v, not %v %v", a, b, f, g, to, part, is, want, meets)
	}
}

func isBody(t *testing.T, b api.Body, to api.Frame, others []api.Body, want float64) {
	t.Helper()
	part, e := impact.Body(b, to, others)
	if e != api.OK || !same(part, want) {
		t.Fatalf("Body(%v, %v, %v) is %v %d, not %v", b, to, others, part, e, want)
	}
}

func noBody(t *testing.T, b api.Body, to api.Frame, others []api.Body, want api.Errno) {
	t.Helper()
	part, e := impact.Body(b, to, others)
	if e != want || !same(part, 0) {
		t.Fatalf("Body of %d others is %v %d, not %d", len(others), part, e, want)
	}
}

func TestExamples(t *testing.T) {
	isFrame(t, at(0, 0), at(4, 0), 0.25, at(1, 0))
	noFrame(t, at(0, 0), at(4, 0), 2, api.ErrTime)
	half := math.Sqrt(0.5)
	q, e := impact.Frame(turned(1), turned(1i), 0.5)
	if e != api.OK || real(q.Turn) != imag(q.Turn) || math.Abs(real(q.Turn)-half) > 0x1p-53 || q.At != v(0, 0) {
		t.Error(q, e)
	}
	isFrame(t, turned(1), turned(-1), 0.5, turned(1))
	c := ball()
	part, is := timeOf(t, c, c, at(0, 0), at(10, 0), at(16, 0))
	if !is || part >= 0.5 || part < 0.5-0x1p-50 {
		t.Error(part, is)
	}
	isTime(t, c, c, at(0, 0), at(1, 0), at(16, 0), 0, true)
	isTime(t, c, c, at(0, 0), at(10, 0), at(7, 0), 0, false)
	isBody(t, free(0), at(16, 0), []api.Body{fixed(10)}, part)
	sensor, loose := fixed(10), free(10)
	sensor.Parts[0].Sensor = true
	for _, l := range [][]api.Body{{sensor}, {loose}, {fixed(1)}, nil, {}} {
		isBody(t, free(0), at(16, 0), l, 1)
	}
}

func TestP24_1Frame(t *testing.T) {
	s, count := source(1), map[string]int{}
	for range 20000 {
		f, to := s.way(math.Ldexp(1, s.below(79)-40))
		part := []float64{0, 1, 0.5, s.part(), s.part(), float64(s.below(65)) / 64, minus, tiny}[s.below(8)]
		want := wantFrame(f, to, part)
		isFrame(t, f, to, part, want)
		isErr(t, frame.Check(want), api.OK, "the frame between", f, to)
		if want.Turn == f.Turn && to.Turn == -f.Turn && part == 0.5 {
			count["opposite"]++
		}
		if want.Turn != f.Turn && want.Turn != to.Turn {
			count["turned"]++
		}
	}
	enough(t, count, 100, "opposite", "turned")
}

// TestP24_1Edges: both ends, noughts, and what goes from one end of all reals to the other.
func TestP24_1Edges(t *testing.T) {
	most := api.MaxReal
	for i, c := range []struct {
		f, to api.Frame
		part  float64
		want  api.Frame
	}{
		{at(1, 2), at(5, -2), 0, at(1, 2)}, {at(1, 2), at(5, -2), 1, at(5, -2)}, {at(1, 2), at(5, -2), 0.5, at(3, 0)}, {at(1, 2), at(5, -2), minus, at(1, 2)},
		{at(minus, minus), at(minus, 0), 0.5, at(0, 0)}, {at(minus, minus), at(-1, 1), 0, at(minus, 0)}, {at(minus, 1), at(1, minus), 1, at(1, 0)},
		{at(-most, most), at(most, -most), 0.5, at(0, 0)}, {at(-most, most), at(most, -most), 1, at(most, -most)}, {at(-most, most), at(-most, most), 0.3, at(-most, most)},
		// The difference is rounded, and then the product: the place at 1 need not be the other one's.
		{at(1, 0), at(0x1p-60, 0), 1, at(0, 0)}, {at(-1, 0), at(0x1p-54, 3), 1, at(0, 3)},
		{turned(1i), turned(-1i), 0.5, turned(1i)}, {turned(1i), turned(-1i), 0.25, turned(1i)}, {turned(1i), turned(-1i), 0.75, turned(-1i)},
		{turned(0.6 + 0.8i), turned(0.6 - 0.8i), 0.5, turned(1)}, {turned(1i), turned(complex(minus, 1)), 1, turned(1i)},
	} {
		got, e := impact.Frame(c.f, c.to, c.part)
		if e != api.OK || !sameFrame(got, c.want) {
			t.Errorf("%d: %v %d, not %v", i, got, e, c.want)
		}
	}
	// A turn that drifted comes out as long as 1, even where it does not change; but there it stays as it is, where nothing is left half of the way.
	drifted := complex(1+0x1p-42, 0)
	isFrame(t, turned(drifted), turned(drifted), 0.5, turned(1))
	isFrame(t, turned(drifted), turned(drifted), 0, turned(1))
	isFrame(t, turned(drifted), turned(-drifted), 0.5, turned(drifted))
}

// wrongFrames are of each error that a frame may have.
func wrongFrames() []api.Frame {
	return []api.Frame{
		at(past, 0), at(0, -past), at(none, 0), at(0, inf), {At: v(none, 0)},
		{}, turned(2), turned(complex(1, 0x1p-19)), turned(complex(none, 0)), turned(complex(1, inf)),
	}
}

func wrongParts() []float64 {
	return []float64{none, inf, -inf, 2, -1, -tiny, math.Nextafter(1, 2), math.MaxFloat64}
}

func TestP24_1Refuses(t *testing.T) {
	for _, part := range wrongParts() {
		noFrame(t, at(0, 0), at(4, 0), part, api.ErrTime)
	}
	for _, bad := range wrongFrames() {
		want := frame.Check(bad)
		if want == api.OK {
			t.Fatal(bad)
		}
		for _, part := range append(wrongParts(), 0.5) {
			noFrame(t, bad, at(0, 0), part, want)
			noFrame(t, at(0, 0), bad, part, want)
			for _, other := range wrongFrames() {
				noFrame(t, bad, other, part, want)
			}
		}
	}
}

// kindOf tells of a Time's answer what came of it.
func kindOf(part float64, is bool) string {
	switch {
	case !is:
		return "none"
	case part == 0:
		return "at once"
	}
	return "later"
}

func TestP24_2Time(t *testing.T) {
	s, count := source(2), map[string]int{}
	for range 4000 {
		a, b, g := s.shape(), s.shape(), s.frame(1)
		f, to := s.way([]float64{2, 6, 40}[s.below(3)])
		part, is := wantTime(a, b, f, g, to)
		isTime(t, a, b, f, g, to, part, is)
		count[kindOf(part, is)]++
		count[fmt.Sprint(a.Kind, b.Kind)]++
	}
	enough(t, count, 300, "none", "at once", "later")
	enough(t, count, 100, "1 1", "1 2", "1 3", "2 1", "2 2", "2 3", "3 1", "3 2", "3 3")
}

// TestP24_2Looks: of each even part of the way whether it is looked at, by a ball that is there and at none of the others.
func TestP24_2Looks(t *testing.T) {
	c, to := disc(0.25, 0, 0), at(64, 0)
	for k := range 65 {
		for _, off := range []float64{0, 0.25, -0.25} {
			x := float64(k) + off
			part, is := timeOf(t, c, c, at(0, 0), at(x, 0), to)
			want := (x - 0.5) / 64
			switch {
			case !is:
				t.Errorf("at %v nothing is met", x)
			case want < 0:
				isTime(t, c, c, at(0, 0), at(x, 0), to, 0, true)
			case part >= want || part < want-0x1p-50:
				t.Errorf("at %v it is %v, not %v", x, part, want)
			}
		}
		// Between two looks it is passed by, as it is ahead of the first and behind the last one.
		isTime(t, disc(0.125, 0, 0), disc(0.25, 0, 0), at(0, 0), at(float64(k)+0.5, 0), to, 0, false)
		isTime(t, disc(0.125, 0, 0), disc(0.25, 0, 0), at(0, 0), at(float64(k)-0.5, 0), to, 0, false)
	}
}

// TestP24_2First: of two times at which a shape that turns touches, it is the first one.
func TestP24_2First(t *testing.T) {
	// Its upper end passes into a bar and out, and then its other end, which has become the upper one.
	needle, bar, g := pill(0.0625, -2, 0, 2, 0), pill(0.0625, -3.25, 1.25, 3.25, 1.25), at(0, 0)
	from, to := api.Frame{At: v(-3, 0), Turn: 0.6 - 0.8i}, api.Frame{At: v(3, 0), Turn: 0.6 + 0.8i}
	for _, way := range [][2]api.Frame{{from, to}, {to, from}} {
		part, is := timeOf(t, needle, bar, way[0], g, way[1])
		if !is || part < 0.05 || part > 0.25 {
			t.Error(part, is)
		}
		touches := func(part float64) bool { return isTouch(needle, bar, way[0], g, way[1], part) }
		if touches(0) || touches(part) || !touches(math.Nextafter(part, 1)) || touches(0.5) || !touches(0.8125) || touches(1) {
			t.Error("it does not touch just twice")
		}
	}
}

// TestP24_2Last: it is the last float at which it does not touch.
func TestP24_2Last(t *testing.T) {
	// They touch at the very end alone.
	isTime(t, ball(), ball(), at(0, 0), at(10, 0), at(8, 0), math.Nextafter(1, 0), true)
	isTime(t, ball(), ball(), at(0, 0), at(10, 0), at(math.Nextafter(8, 0), 0), 0, false)
	// A rectangle whose right side comes to nought, where the wall begins, at the part 3/8, by floats that are all told in full.
	wall, block := rectangle(0, -4, 2, 4), rectangle(-1, -1, 0, 1)
	isTime(t, block, wall, at(-3, 0), at(0, 0), at(5, 0), math.Nextafter(0.375, 0), true)
	// At the very beginning it touches nothing yet.
	isTime(t, block, wall, at(-0x1p-60, 0), at(0, 0), at(0, 0), math.Nextafter(1, 0), true)
}

// TestP24_2Sixty: the halvings end at the sixtieth, where the first touch lies near to nought.
func TestP24_2Sixty(t *testing.T) {
	wall, block := rectangle(0, -4, 2, 4), rectangle(-1, -1, 0, 1)
	for _, c := range []struct{ from, want float64 }{
		// It touches from 2^-100 on, which so many halvings do not come to.
		{0x1p-100, 0}, {0x1p-67, 0}, {0x1p-66, 0},
		// The sixtieth one tells 2^-66; one more would tell 1.5 * 2^-66.
		{1.25 * 0x1p-66, 0x1p-66}, {1.75 * 0x1p-66, 0x1p-66}, {0x1p-65, 0x1p-66},
		{1.125 * 0x1p-65, 0x1p-65}, {1.75 * 0x1p-65, 1.5 * 0x1p-65}, {0x1p-60 + 0x1p-80, 0x1p-60},
	} {
		isTime(t, block, wall, at(-c.from, 0), at(0, 0), at(1, 0), c.want, true)
		if isTouch(block, wall, at(-c.from, 0), at(0, 0), at(1, 0), 0) {
			t.Errorf("from %v it touches at once", c.from)
		}
	}
}

// TestP24_2Lies: what does not lie touches nothing, on the way or beside it.
func TestP24_2Lies(t *testing.T) {
	most := api.MaxReal
	great := disc(100, 0, 0)
	// The circle comes to lie at the first look behind the beginning, where it is in the great one.
	c := disc(1, 1, 0)
	part, is := timeOf(t, c, great, at(most, 0), at(most-10, 0), at(most-64, 0))
	if !is || part <= 0 || part >= 1.0/64 || isTouch(c, great, at(most, 0), at(most-10, 0), at(most-64, 0), 0) {
		t.Error(part, is)
	}
	isTime(t, c, great, at(most-1, 0), at(most-10, 0), at(most-64, 0), 0, true)
	isTime(t, c, great, at(most, 0), at(most-10, 0), at(most, 0), 0, false)
	isTime(t, great, c, at(most, 0), at(most, 0), at(most-64, 0), 0, false)
	isTime(t, great, c, at(most, 0), at(most-1, 0), at(most-64, 0), 0, true)
	// A small polygon's points fall together so far away.
	small := rectangle(0, 0, 0x1p-29, 0x1p-29)
	isTime(t, small, great, at(0x1p30, 0), at(0x1p30, 0), at(0x1p30, 9), 0, false)
	isTime(t, small, great, at(9, 0), at(0, 0), at(0, 9), 0, true)
	if part, is := timeOf(t, small, great, at(0x1p30, 0), at(0, 0), at(0, 0)); !is || part < 0.9 {
		t.Error(part, is)
	}
}

// wrongShapes are of each error that a shape may have.
func wrongShapes() []api.Shape {
	return []api.Shape{
		{}, {Kind: 4, Radius: 1, Points: []api.Vec{{}}}, {Kind: api.Circle, Radius: 1}, {Kind: api.Capsule, Radius: 1, Points: []api.Vec{{}}},
		disc(0, 0, 0), disc(none, 0, 0), disc(1, none, 0), disc(1, past, 0), pill(1, 2, 2, 2, 2),
		rectangle(0, 0, -1, 1), rectangle(0, 0, inf, 1), {Kind: api.Polygon, Radius: 1, Points: rectangle(0, 0, 1, 1).Points},
	}
}

// TestP24_2Refuses: whichever of the arguments are wrong, it is the error of the first one of them.
func TestP24_2Refuses(t *testing.T) {
	check := func(a, b api.Shape, f, g, to api.Frame, want api.Errno) {
		t.Helper()
		part, is, e := impact.Time(a, b, f, g, to)
		if e != want || is || !same(part, 0) {
			t.Fatalf("Time(%v, %v, %v, %v, %v) is %v %v %d, not %d", a, b, f, g, to, part, is, e, want)
		}
	}
	shapes := append(wrongShapes(), ball())
	frames := append(wrongFrames(), at(0, 0))
	s, count := source(3), map[api.Errno]int{}
	for range 20000 {
		a, b := ball(), ball()
		if s.coin() {
			a = shapes[s.below(len(shapes))]
		}
		if s.coin() {
			b = shapes[s.below(len(shapes))]
		}
		l := [3]api.Frame{at(0, 0), at(0, 0), at(0, 0)}
		for i := range l {
			if s.coin() {
				l[i] = frames[s.below(len(frames))]
			}
		}
		for _, e := range []api.Errno{shape.Check(a), shape.Check(b), frame.Check(l[0]), frame.Check(l[1]), frame.Check(l[2])} {
			if e != api.OK {
				check(a, b, l[0], l[1], l[2], e)
				count[e]++
				break
			}
		}
	}
	enough(t, count, 300, api.ErrKind, api.ErrShape, api.ErrReal, api.ErrPoly, api.ErrTurn)
	for _, bad := range wrongShapes() {
		check(bad, ball(), at(0, 0), at(0, 0), at(1, 0), shape.Check(bad))
		check(ball(), bad, at(0, 0), at(0, 0), at(1, 0), shape.Check(bad))
	}
	for _, bad := range wrongFrames() {
		check(ball(), ball(), bad, at(0, 0), at(1, 0), frame.Check(bad))
		check(ball(), ball(), at(0, 0), bad, at(1, 0), frame.Check(bad))
		check(ball(), ball(), at(0, 0), at(0, 0), bad, frame.Check(bad))
	}
}

func TestP24_3Body(t *testing.T) {
	s, count := source(4), map[string]int{}
	for range 800 {
		f, to := s.way([]float64{4, 12}[s.below(2)])
		b := s.body(uint8(1+s.below(3)), f)
		others := s.others(s.below(6))
		want := wantBody(b, to, others)
		isBody(t, b, to, others, want)
		count[kindOf(want, want != 1)]++
	}
	enough(t, count, 200, "none", "later")
}

// TestP24_3Which: what stands in a body's way, and what does not, each by itself.
func TestP24_3Which(t *testing.T) {
	b := free(0)
	stop := func(x float64) float64 {
		part, _ := wantTime(ball(), ball(), at(0, 0), at(x, 0), at(16, 0))
		return part
	}
	change := func(f func(o *api.Body)) []api.Body {
		o := fixed(10)
		f(&o)
		return []api.Body{o}
	}
	for i, c := range []struct {
		others []api.Body
		want   float64
	}{
		{change(func(o *api.Body) {}), stop(10)},
		{change(func(o *api.Body) { o.Kind = api.Moved }), 1}, {change(func(o *api.Body) { o.Kind = api.Free }), 1},
		// A Fixed one's speed moves it nowhere; but one that is wild is not there.
		{change(func(o *api.Body) { o.Speed, o.Spin = v(5, 5), 5 }), stop(10)}, {change(func(o *api.Body) { o.Force, o.Torque = v(none, inf), none }), stop(10)},
		{change(func(o *api.Body) { o.Speed.X = none }), 1}, {change(func(o *api.Body) { o.Speed.Y = inf }), 1}, {change(func(o *api.Body) { o.Spin = none }), 1},
		{change(func(o *api.Body) { o.Frame.At.X = none }), 1}, {change(func(o *api.Body) { o.Frame.Turn = complex(1, none) }), 1},
		// Such a Fixed one may be kept, and lies nowhere.
		{change(func(o *api.Body) { o.Frame.At.Y = past }), 1}, {change(func(o *api.Body) { o.Frame.Turn = 2 }), 1}, {change(func(o *api.Body) { o.Frame.Turn = 0 }), 1},
		{change(func(o *api.Body) { o.Parts[0].Sensor = true }), 1}, {change(func(o *api.Body) { o.Parts[0].Layer = 2 }), 1}, {change(func(o *api.Body) { o.Parts[0].Mask = 2 }), 1},
		{change(func(o *api.Body) { o.Parts[0].Layer, o.Parts[0].Mask = 1<<15|1, 3 }), stop(10)}, {change(func(o *api.Body) { o.Parts[0].Density = 0 }), stop(10)}, {change(func(o *api.Body) { o.Bullet = true }), stop(10)},
		{[]api.Body{fixed(12), fixed(8), fixed(10)}, stop(8)}, {[]api.Body{fixed(8), fixed(12)}, stop(8)}, {[]api.Body{fixed(30), fixed(-5)}, 1},
		// What it touches from the beginning on holds nothing up, not even what it comes to touch anew.
		{[]api.Body{fixed(1)}, 1}, {[]api.Body{fixed(2)}, 1}, {[]api.Body{fixed(1), fixed(10)}, stop(10)}, {[]api.Body{fixed(-2)}, 1},
		// Two parts of one body, each by itself.
		{[]api.Body{thing(api.Fixed, at(1, 0), ball(), disc(1, 8, 0))}, stop(9)}, {[]api.Body{thing(api.Fixed, at(1, 0), disc(1, 11, 0), disc(1, 8, 0), ball())}, stop(9)},
	} {
		part, e := impact.Body(b, at(16, 0), c.others)
		if e != api.OK || !same(part, c.want) {
			t.Errorf("%d: %v %d, not %v", i, part, e, c.want)
		}
	}
	if a, b, c := stop(8), stop(9), stop(10); !(0.25 < a && a < b && b < c && c < 0.5) {
		t.Error(a, b, c)
	}
}

// TestP24_3Own: of the body that goes its parts and its Frame are asked, and nothing else.
func TestP24_3Own(t *testing.T) {
	want, _ := wantTime(ball(), ball(), at(0, 0), at(10, 0), at(16, 0))
	for i, f := range []func(b *api.Body){
		func(b *api.Body) { b.Kind = api.Fixed }, func(b *api.Body) { b.Kind = api.Moved }, func(b *api.Body) { b.Bullet = true }, func(b *api.Body) { b.Asleep, b.Calm = true, 9 },
		func(b *api.Body) { b.Speed, b.Spin = v(none, -7), inf }, func(b *api.Body) { b.Force, b.Torque = v(none, inf), none }, func(b *api.Body) { b.Damp, b.SpinDamp = 5, 5 },
		func(b *api.Body) { b.Parts = append(b.Parts, part(disc(1, -3, 0))) }, func(b *api.Body) { b.Parts = append([]api.Part{part(disc(1, -3, 0))}, b.Parts...) },
		func(b *api.Body) {
			b.Parts = append([]api.Part{{Shape: disc(1, 5, 0), Sensor: true, Layer: 1, Mask: 1}}, b.Parts...)
		},
		func(b *api.Body) {
			b.Parts = append(b.Parts, api.Part{Shape: disc(1, 5, 0), Density: 1, Layer: 2, Mask: 1})
		},
		func(b *api.Body) {
			b.Parts = append(b.Parts, api.Part{Shape: disc(1, 5, 0), Density: 1, Layer: 1, Mask: 2})
		},
	} {
		b := free(0)
		f(&b)
		got, e := impact.Body(b, at(16, 0), []api.Body{fixed(10)})
		if e != api.OK || !same(got, want) {
			t.Errorf("%d: %v %d, not %v", i, got, e, want)
		}
	}
	b := free(0)
	b.Parts[0].Sensor, b.Kind = true, api.Moved
	isBody(t, b, at(16, 0), []api.Body{fixed(10)}, 1)
}

// TestP24_3AtOnce: a nought that is no touch at the beginning counts, and is the least there is.
func TestP24_3AtOnce(t *testing.T) {
	wall := thing(api.Fixed, at(0, 0), rectangle(0, -4, 2, 4))
	b := thing(api.Free, at(-0x1p-100, 0), rectangle(-1, -1, 0, 1))
	isBody(t, b, at(1, 0), []api.Body{wall}, 0)
	isBody(t, b, at(1, 0), []api.Body{fixed(7), wall, fixed(1.5)}, 0)
	b.Frame.At.X = 0
	isBody(t, b, at(1, 0), []api.Body{wall}, 1)
}

// wrongBodies may not be kept.
func wrongBodies() []api.Body {
	var l []api.Body
	for _, f := range []func(b *api.Body){
		func(b *api.Body) { b.Kind = 0 }, func(b *api.Body) { b.Kind = 4 }, func(b *api.Body) { b.Damp = -1 }, func(b *api.Body) { b.SpinDamp = none },
		func(b *api.Body) { b.Calm = -1 }, func(b *api.Body) { b.Parts = nil }, func(b *api.Body) { b.Parts = slices.Repeat(b.Parts, api.MaxParts+1) },
		func(b *api.Body) { b.Parts[0].Shape = api.Shape{} }, func(b *api.Body) { b.Parts[0].Shape = disc(0, 0, 0) }, func(b *api.Body) { b.Parts[0].Shape = rectangle(0, 0, -1, 1) },
		func(b *api.Body) { b.Parts[0].Friction = -1 }, func(b *api.Body) { b.Parts[0].Bounce = 2 }, func(b *api.Body) { b.Parts[0].Density = -1 }, func(b *api.Body) { b.Kind, b.Parts[0].Density = api.Free, 0 },
	} {
		b := fixed(3)
		f(&b)
		l = append(l, b)
	}
	asleep := fixed(3)
	asleep.Asleep = true
	return append(l, asleep)
}

// keeping is a body's keeping error, as chapter 16 has it.
func keeping(b api.Body) api.Errno {
	b.Frame, b.Speed, b.Spin, b.Force, b.Torque = at(0, 0), api.Vec{}, 0, api.Vec{}, 0
	return body.Check(b)
}

func TestP24_3Refuses(t *testing.T) {
	wrong := wrongBodies()
	many := slices.Repeat([]api.Body{fixed(10)}, api.MaxBodies+1)
	manyWrong := slices.Repeat([]api.Body{{}}, api.MaxBodies+1)
	for _, bad := range wrong {
		want := keeping(bad)
		if want == api.OK {
			t.Fatal(bad)
		}
		for _, to := range []api.Frame{at(16, 0), {}, at(none, 0)} {
			for _, x := range []float64{0, none} {
				bad.Frame.At.X = x
				for _, l := range [][]api.Body{nil, {fixed(10)}, many, manyWrong, wrong} {
					noBody(t, bad, to, l, want)
				}
			}
		}
		noBody(t, free(0), at(16, 0), []api.Body{bad}, want)
		for _, other := range wrong {
			noBody(t, free(0), at(16, 0), []api.Body{fixed(1), free(2), bad, other}, want)
		}
	}
	for _, bad := range wrongFrames() {
		b := free(0)
		b.Frame = bad
		for _, l := range [][]api.Body{nil, {fixed(10)}, many, manyWrong, wrong} {
			for _, to := range []api.Frame{at(16, 0), {}, at(none, 0)} {
				noBody(t, b, to, l, frame.Check(bad))
			}
			noBody(t, free(0), bad, l, frame.Check(bad))
		}
	}
	noBody(t, free(0), at(16, 0), many, api.ErrMany)
	noBody(t, free(0), at(16, 0), manyWrong, api.ErrMany)
	want, _ := wantTime(ball(), ball(), at(0, 0), at(10, 0), at(16, 0))
	most := slices.Repeat([]api.Body{free(3)}, api.MaxBodies)
	most[api.MaxBodies-1] = fixed(10)
	isBody(t, free(0), at(16, 0), most, want)
}

// roomy has spare room behind a list, filled with something to be found again.
func roomy[T any](l []T, fill T) []T {
	whole := slices.Repeat([]T{fill}, len(l)+3)
	copy(whole, l)
	return whole[:len(l)]
}

func roomyShape(s api.Shape) api.Shape {
	s.Points = roomy(s.Points, v(77, 77))
	return s
}

func roomyBody(b api.Body) api.Body {
	b.Parts = roomy(b.Parts, api.Part{Density: 77})
	for i := range b.Parts {
		b.Parts[i].Shape = roomyShape(b.Parts[i].Shape)
	}
	return b
}

// rooms are all of some bodies, with what lies in their lists' spare room.
func rooms(l []api.Body) string {
	text := fmt.Sprintf("%#v", l[:cap(l)])
	for _, b := range l {
		text += fmt.Sprintf("%#v", b.Parts[:cap(b.Parts)])
		for _, p := range b.Parts {
			text += fmt.Sprintf("%#v", p.Shape.Points[:cap(p.Shape.Points)])
		}
	}
	return text
}

func TestP24_4Read(t *testing.T) {
	s := source(5)
	for range 200 {
		f, to := s.way(8)
		others := roomy(s.others(1+s.below(4)), api.Body{Calm: 77})
		for i := range others {
			others[i] = roomyBody(others[i])
		}
		all := append([]api.Body{roomyBody(s.body(api.Free, f))}, others...)
		before, spare := rooms(all), rooms(others)
		if _, e := impact.Body(all[0], to, others); e != api.OK {
			t.Fatal(e)
		}
		for _, o := range others {
			impact.Time(all[0].Parts[0].Shape, o.Parts[0].Shape, f, o.Frame, to)
		}
		if rooms(all) != before || rooms(others) != spare {
			t.Fatal("something is changed")
		}
	}
}
