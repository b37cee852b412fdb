package body_test

import (
	"math"
	"slices"
	"testing"

	"tumble/api"
	"tumble/body"
	"tumble/frame"
	"tumble/mass"
	"tumble/shape"
)

// isOutside tells of what is no number from low to high.
func isOutside(f, low, high float64) bool { return math.IsNaN(f) || f < low || f > high }

// anyOutside tells whether one of some floats is.
func anyOutside(low, high float64, l ...float64) bool {
	return slices.ContainsFunc(l, func(f float64) bool { return isOutside(f, low, high) })
}

// wantCheck goes by P16.1's words, one after the other.
func wantCheck(b api.Body) api.Errno {
	if b.Kind < api.Fixed || b.Kind > api.Free {
		return api.ErrBody
	}
	if e := frame.Check(b.Frame); e != api.OK {
		return e
	}
	if anyOutside(-api.MaxReal, api.MaxReal, b.Speed.X, b.Speed.Y, b.Spin, b.Force.X, b.Force.Y, b.Torque) || anyOutside(0, api.MaxReal, b.Damp, b.SpinDamp) {
		return api.ErrReal
	}
	switch {
	case b.Kind == api.Fixed && (b.Speed.X != 0 || b.Speed.Y != 0 || b.Spin != 0), b.Asleep && b.Kind != api.Free:
		return api.ErrBody
	case b.Calm < 0, b.Calm > 1<<53, len(b.Parts) < 1, len(b.Parts) > 8:
		return api.ErrBody
	}
	for _, p := range b.Parts {
		if e := shape.Check(p.Shape); e != api.OK {
			return e
		}
		if isOutside(p.Friction, 0, api.MaxReal) || isOutside(p.Bounce, 0, 1) {
			return api.ErrReal
		}
	}
	m, e := mass.Parts(b.Parts)
	if e != api.OK {
		return e
	}
	if b.Kind == api.Free && (m.Mass <= 0 || m.Inertia <= 0) {
		return api.ErrMass
	}
	return api.OK
}

func TestP16_1Check(t *testing.T) {
	count := map[api.Errno]int{}
	s := source(1)
	for range 60000 {
		b := s.body()
		for range s.below(3) {
			s.spoil(&b)
		}
		want := wantCheck(b)
		count[want]++
		isErr(t, body.Check(b), want, "Check", b)
	}
	enough(t, count, 10000, api.OK, api.ErrReal)
	enough(t, count, 1000, api.ErrBody, api.ErrTurn, api.ErrShape, api.ErrKind, api.ErrMass)
	enough(t, count, 100, api.ErrPoly, api.ErrFlat)
}

// reals are pointers to the floats of a body that must be reals; those from the ninth on must not be below 0 either.
func reals(b *api.Body) []*float64 {
	p := &b.Parts[1]
	return []*float64{&b.Frame.At.X, &b.Frame.At.Y, &b.Speed.X, &b.Speed.Y, &b.Spin, &b.Force.X, &b.Force.Y, &b.Torque, &b.Damp, &b.SpinDamp, &p.Friction, &p.Density}
}

func pairOf(kind uint8) api.Body { return thing(kind, part(square(), 1), part(disc(1, 5, 0), 2)) }

func TestP16_1CheckReals(t *testing.T) {
	for i := range 12 {
		check := func(f float64, want api.Errno) {
			t.Helper()
			b := pairOf(api.Free)
			*reals(&b)[i] = f
			isErr(t, body.Check(b), want, "Check", i, f)
		}
		for _, f := range wrongReals() {
			check(f, api.ErrReal)
		}
		for _, f := range []float64{0, minus, tiny, 1, api.MaxReal} {
			check(f, api.OK)
		}
		for _, f := range []float64{-tiny, -1, -api.MaxReal} {
			if i < 8 {
				check(f, api.OK)
			} else {
				check(f, api.ErrReal)
			}
		}
	}
	for f, want := range map[float64]api.Errno{0: api.OK, minus: api.OK, 0.5: api.OK, 1: api.OK, tiny: api.OK, math.Nextafter(1, 2): api.ErrReal, 2: api.ErrReal, -tiny: api.ErrReal, inf: api.ErrReal, -inf: api.ErrReal, none: api.ErrReal} {
		b := pairOf(api.Moved)
		b.Parts[1].Bounce = f
		isErr(t, body.Check(b), want, "Check of the bounce", f)
	}
}

func TestP16_1CheckKinds(t *testing.T) {
	for kind := range 256 {
		want := api.ErrBody
		if kind >= 1 && kind <= 3 {
			want = api.OK
		}
		isErr(t, body.Check(pairOf(uint8(kind))), want, "Check of the kind", kind)
	}
	for kind, moves := range map[uint8]api.Errno{api.Fixed: api.ErrBody, api.Moved: api.OK, api.Free: api.OK} {
		for _, f := range []float64{-1, tiny, -tiny, api.MaxReal} {
			for i := 2; i < 5; i++ {
				b := pairOf(kind)
				*reals(&b)[i] = f
				isErr(t, body.Check(b), moves, "Check of what moves", kind, i, f)
			}
		}
		b := pairOf(kind)
		b.Speed, b.Spin, b.Force, b.Torque, b.Bullet, b.Calm = v(minus, minus), minus, v(3, 4), 5, true, 1<<53
		isErr(t, body.Check(b), api.OK, "Check of what is at rest", kind)
		b.Asleep = true
		want := api.ErrBody
		if kind == api.Free {
			want = api.OK
		}
		isErr(t, body.Check(b), want, "Check of what sleeps", kind)
	}
	for calm, want := range map[int]api.Errno{-1 << 63: api.ErrBody, -1: api.ErrBody, 0: api.OK, 1: api.OK, 1 << 53: api.OK, 1<<53 + 1: api.ErrBody, 1<<63 - 1: api.ErrBody} {
		b := pairOf(api.Fixed)
		b.Calm = calm
		isErr(t, body.Check(b), want, "Check of the calm", calm)
	}
}

func TestP16_1CheckParts(t *testing.T) {
	for n := range 12 {
		want := api.OK
		if n < 1 || n > 8 {
			want = api.ErrBody
		}
		isErr(t, body.Check(thing(api.Free, slices.Repeat([]api.Part{part(square(), 1)}, n)...)), want, "Check of so many parts", n)
		l := slices.Repeat([]api.Part{sensor(square(), 1)}, n)
		isErr(t, body.Check(thing(api.Moved, l...)), want, "Check of so many sensors", n)
	}
	ball := disc(1, 2, 3)
	for i, c := range []struct {
		l           []api.Part
		free, fixed api.Errno
	}{
		// What weighs nothing can't be Free.
		{[]api.Part{part(ball, 0)}, api.ErrMass, api.OK}, {[]api.Part{part(ball, minus)}, api.ErrMass, api.OK}, {[]api.Part{sensor(ball, 1)}, api.ErrMass, api.OK}, {[]api.Part{sensor(ball, 1), part(ball, 0), sensor(ball, 1)}, api.ErrMass, api.OK}, {[]api.Part{part(ball, 0), part(square(), 0)}, api.ErrMass, api.OK}, {[]api.Part{part(ball, 0), part(ball, 1)}, api.OK, api.OK},
		// It weighs something, but its inertia is too small for a float.
		{[]api.Part{part(disc(api.MinReal, 0, 0), 0x1p-1000)}, api.ErrMass, api.OK}, {[]api.Part{part(ball, tiny)}, api.OK, api.OK},
		{[]api.Part{part(flat(), 1)}, api.ErrFlat, api.ErrFlat}, {[]api.Part{part(ball, 1), sensor(flat(), 1)}, api.ErrFlat, api.ErrFlat}, {[]api.Part{part(bad(), 1)}, api.ErrMass, api.ErrMass}, {[]api.Part{part(ball, 1), sensor(bad(), 1)}, api.ErrMass, api.ErrMass},
		{[]api.Part{part(ball, -1)}, api.ErrReal, api.ErrReal}, {[]api.Part{part(ball, 1), sensor(ball, none)}, api.ErrReal, api.ErrReal},
		{[]api.Part{part(ball, 1), part(disc(1), 1)}, api.ErrShape, api.ErrShape}, {[]api.Part{part(ball, 1), {}}, api.ErrKind, api.ErrKind}, {[]api.Part{part(convex(0, 0, 0, 1, 1, 0), 1)}, api.ErrPoly, api.ErrPoly}, {[]api.Part{part(ball, 1), sensor(disc(0, 0, 0), 1)}, api.ErrReal, api.ErrReal},
	} {
		isErr(t, body.Check(thing(api.Free, c.l...)), c.free, "Check of a free one", i)
		isErr(t, body.Check(thing(api.Fixed, c.l...)), c.fixed, "Check of a fixed one", i)
		isErr(t, body.Check(thing(api.Moved, c.l...)), c.fixed, "Check of a moved one", i)
	}
}

// fault is something wrong with a body.
type fault struct {
	e    api.Errno
	make func(b *api.Body)
}

// faults stand in the order in which they are looked for; those of one row are looked for together.
func faults() [][]fault {
	ofPart := func(i int) [][]fault {
		return [][]fault{
			{{api.ErrKind, func(b *api.Body) { b.Parts[i].Shape.Kind = 9 }}, {api.ErrShape, func(b *api.Body) { b.Parts[i].Shape.Points = nil }}, {api.ErrPoly, func(b *api.Body) { b.Parts[i].Shape = convex(0, 0, 0, 1, 1, 0) }}},
			{{api.ErrReal, func(b *api.Body) { b.Parts[i].Friction = -1 }}, {api.ErrReal, func(b *api.Body) { b.Parts[i].Bounce = 2 }}},
		}
	}
	return slices.Concat([][]fault{
		{{api.ErrBody, func(b *api.Body) { b.Kind = 0 }}, {api.ErrBody, func(b *api.Body) { b.Kind = 7 }}},
		{{api.ErrReal, func(b *api.Body) { b.Frame.At.Y = past }}},
		{{api.ErrTurn, func(b *api.Body) { b.Frame.Turn = 2 }}},
		{{api.ErrReal, func(b *api.Body) { b.Speed.X = none }}, {api.ErrReal, func(b *api.Body) { b.Torque = inf }}, {api.ErrReal, func(b *api.Body) { b.SpinDamp = -1 }}},
		{{api.ErrBody, func(b *api.Body) { b.Spin = 1 }}, {api.ErrBody, func(b *api.Body) { b.Asleep = true }}, {api.ErrBody, func(b *api.Body) { b.Calm = -1 }}, {api.ErrBody, func(b *api.Body) { b.Parts = append(b.Parts, make([]api.Part, 8)...) }}},
	}, ofPart(0), ofPart(1), [][]fault{
		{{api.ErrReal, func(b *api.Body) { b.Parts[0].Density = -1 }}, {api.ErrFlat, func(b *api.Body) { b.Parts[0].Shape = flat() }}},
		{{api.ErrReal, func(b *api.Body) { b.Parts[1].Density = none }}, {api.ErrMass, func(b *api.Body) { b.Parts[1].Shape = bad() }}},
	})
}

func TestP16_1CheckOrder(t *testing.T) {
	rows := faults()
	for i, row := range rows {
		for _, first := range row {
			b := pairOf(api.Fixed)
			first.make(&b)
			isErr(t, body.Check(b), first.e, "Check of one fault", i)
			for j := i + 1; j < len(rows); j++ {
				for _, second := range rows[j] {
					b := pairOf(api.Fixed)
					second.make(&b)
					first.make(&b)
					isErr(t, body.Check(b), first.e, "Check of two faults", i, j)
				}
			}
		}
	}
	// Of a part its shape is looked at ahead of its density, which comes with all the others'.
	b := thing(api.Free, part(square(), -1), part(disc(1), 1))
	isErr(t, body.Check(b), api.ErrShape, "Check", b)
}

func TestP16_2Wild(t *testing.T) {
	s := source(2)
	count := map[bool]int{}
	for range 20000 {
		b := s.worldly()
		want := slices.ContainsFunc([]float64{b.Frame.At.X, b.Frame.At.Y, real(b.Frame.Turn), imag(b.Frame.Turn), b.Speed.X, b.Speed.Y, b.Spin}, func(f float64) bool { return math.IsNaN(f) || math.IsInf(f, 0) })
		count[want]++
		if body.Wild(b) != want {
			t.Fatalf("Wild(%v) is not %v", b, want)
		}
	}
	enough(t, count, 1000, true, false)
}

func TestP16_2WildEdges(t *testing.T) {
	for _, f := range []float64{none, inf, -inf, most, -most, past, 0, minus, tiny} {
		wild := math.IsNaN(f) || math.IsInf(f, 0)
		for i := range 10 {
			b := pairOf(api.Free)
			if i < 8 {
				*motion(&b)[i] = f
			} else {
				setTurn(&b, i-8, f)
			}
			// Force and Torque are no motion yet.
			if want := wild && (i < 5 || i > 7); body.Wild(b) != want {
				t.Errorf("with %v in the place %d Wild is %v", f, i, !want)
			}
		}
	}
	b := pairOf(9)
	b.Damp, b.SpinDamp, b.Parts[0].Density, b.Parts[0].Shape.Radius, b.Parts[1].Shape.Points[0].X = none, inf, none, inf, none
	if body.Wild(b) || body.Wild(api.Body{}) {
		t.Error("a body whose motion is finite is wild")
	}
}

// wantMade goes by P16.3's words.
func wantMade(b api.Body) (api.Body, api.Errno) {
	if e := wantCheck(b); e != api.OK {
		return api.Body{}, e
	}
	if b.Kind != api.Free {
		return b, api.OK
	}
	m, _ := mass.Parts(b.Parts)
	made := copyOf(b)
	made.Frame.At = frame.To(b.Frame, m.Centre)
	for i := range made.Parts {
		for j, p := range made.Parts[i].Shape.Points {
			made.Parts[i].Shape.Points[j] = less(p, m.Centre)
		}
	}
	if e := wantCheck(made); e != api.OK {
		return api.Body{}, e
	}
	return made, api.OK
}

func isMade(t *testing.T, b api.Body) api.Errno {
	t.Helper()
	got, e := body.Made(b)
	want, wantE := wantMade(b)
	isErr(t, e, wantE, "Made", b)
	isBody(t, got, want, "Made", b)
	return e
}

func TestP16_3Made(t *testing.T) {
	count := map[api.Errno]int{}
	s := source(3)
	for range 30000 {
		b := s.body()
		if s.below(3) == 0 {
			s.spoil(&b)
		}
		count[isMade(t, b)]++
	}
	enough(t, count, 10000, api.OK)
	enough(t, count, 500, api.ErrReal, api.ErrBody, api.ErrMass)
}

// What is well as it is handed in can be spoiled about its centre.
func TestP16_3MadeSpoiled(t *testing.T) {
	// The centre of mass is nearly at the heavy part, far to the right.
	heavy := part(disc(1, api.MaxReal, 0), api.MaxReal)
	small := convex(0, 0, 0x1p-29, 0, 0x1p-29, 0x1p-29, 0, 0x1p-29)
	for i, c := range []struct {
		b        api.Body
		e, moved api.Errno
	}{
		{thing(api.Free, heavy, part(disc(1, 0, 0), 1)), api.OK, api.OK},
		{thing(api.Free, heavy, part(disc(1, -1, 0), 0)), api.ErrReal, api.OK},
		{thing(api.Free, heavy, part(small, 1)), api.ErrPoly, api.OK},
		{thing(api.Free, heavy, sensor(small, 0)), api.ErrPoly, api.OK},
		{thing(api.Free, heavy, part(pill(1, 0, 0, 0x1p-30, 0), 1)), api.ErrShape, api.OK},
	} {
		isErr(t, body.Check(c.b), api.OK, "Check", i)
		isErr(t, isMade(t, c.b), c.e, "Made", i)
		c.b.Kind = api.Moved
		isErr(t, isMade(t, c.b), c.moved, "Made of a moved one", i)
	}
	// Its place, not its points, comes to lie too far away.
	b := thing(api.Free, part(disc(1, 2, 0), 1))
	for at, want := range map[float64]api.Errno{0: api.OK, api.MaxReal - 2: api.OK, api.MaxReal - 1: api.ErrReal, api.MaxReal: api.ErrReal, -api.MaxReal: api.OK} {
		b.Frame.At.X = at
		isErr(t, body.Check(b), api.OK, "Check", at)
		isErr(t, isMade(t, b), want, "Made", at)
	}
}

func TestP16_3MadeKnown(t *testing.T) {
	b := thing(api.Free, part(square(), 3), sensor(disc(2, 7, 7), 9), part(convex(4, 0, 6, 0, 6, 2, 4, 2), 1))
	b.Frame = api.Frame{At: v(10, 20), Turn: -1i}
	b.Speed, b.Spin, b.Force, b.Torque, b.Damp, b.SpinDamp, b.Asleep, b.Calm, b.Bullet = v(1, 2), 3, v(4, 5), 6, 7, 8, true, 9, true
	b.Parts[1].Layer, b.Parts[1].Mask, b.Parts[0].Friction, b.Parts[2].Bounce = 1, 2, 3, 0.5
	want := copyOf(b)
	want.Frame.At = v(11, 18)
	want.Parts[0].Shape.Points = points(-2, -1, 0, -1, 0, 1, -2, 1)
	want.Parts[1].Shape.Points = points(5, 6)
	want.Parts[2].Shape.Points = points(2, -1, 4, -1, 4, 1, 2, 1)
	got, e := body.Made(b)
	isErr(t, e, api.OK, "Made", b)
	isBody(t, got, want, "Made", b)
	// One that lies about its centre stays as it was.
	again, e := body.Made(got)
	isErr(t, e, api.OK, "Made", got)
	isBody(t, again, got, "Made", got)
}

// call is one of those that tell the keeping error ahead of all else; it answers whether all but the error is zero, too.
type call struct {
	name string
	do   func(b api.Body, wrong float64) (api.Errno, bool)
}

// calls are handed floats that may not be, where they take some besides the body.
func calls() []call {
	return []call{
		{"Still", func(b api.Body, wrong float64) (api.Errno, bool) {
			s, e := body.Still(b)
			return e, sameStill(s, api.Still{})
		}},
		{"Push", func(b api.Body, wrong float64) (api.Errno, bool) {
			r, e := body.Push(b, v(wrong, 0), wrong)
			return e, sameBody(r, api.Body{})
		}},
		{"Go", func(b api.Body, wrong float64) (api.Errno, bool) {
			r, e := body.Go(b, wrong)
			return e, sameBody(r, api.Body{})
		}},
		{"Boxes", func(b api.Body, wrong float64) (api.Errno, bool) {
			l, e := body.Boxes(b)
			return e, len(l) == 0
		}},
		{"At", func(b api.Body, wrong float64) (api.Errno, bool) {
			p, e := body.At(b, v(0, wrong))
			return e, sameVec(p, api.Vec{})
		}},
		{"Kick", func(b api.Body, wrong float64) (api.Errno, bool) {
			r, e := body.Kick(b, v(wrong, 0), v(0, wrong))
			return e, sameBody(r, api.Body{})
		}},
	}
}

// wantKept goes by the chapter's words of the keeping error.
func wantKept(b api.Body) api.Errno {
	b.Frame = api.Frame{Turn: 1}
	b.Speed, b.Spin, b.Force, b.Torque = v(0, 0), 0, v(0, 0), 0
	return wantCheck(b)
}

func TestP16_3KeepingError(t *testing.T) {
	count := map[api.Errno]int{}
	s := source(4)
	for range 30000 {
		b := s.worldly()
		for range 1 + s.below(2) {
			s.spoil(&b)
		}
		want := wantKept(b)
		count[want]++
		for _, c := range calls() {
			e, zero := c.do(b, 1)
			if want != api.OK {
				e, zero = c.do(b, []float64{none, past, 1}[s.below(3)])
			}
			isErr(t, e, want, c.name, b)
			if want != api.OK && !zero {
				t.Fatalf("%s(%v) tells something beside its error", c.name, b)
			}
		}
	}
	enough(t, count, 5000, api.OK, api.ErrReal)
	enough(t, count, 500, api.ErrBody, api.ErrShape, api.ErrKind, api.ErrMass)
	enough(t, count, 50, api.ErrPoly, api.ErrFlat)
}

func TestP16_3KeepingErrorEdges(t *testing.T) {
	for _, c := range calls() {
		for i, row := range faults() {
			for j, f := range row {
				b := pairOf(api.Fixed)
				f.make(&b)
				// A place, a turn, a speed may be any, even a Fixed one's.
				want := f.e
				if i == 1 || i == 2 || i == 3 && j < 2 || i == 4 && j == 0 {
					want = api.OK
				}
				e, zero := c.do(b, 1)
				isErr(t, e, want, c.name, i, j)
				if want != api.OK {
					e, zero = c.do(b, none)
					isErr(t, e, want, c.name, i, j)
				}
				if want != api.OK && !zero {
					t.Errorf("%s tells something beside its error %v", c.name, want)
				}
			}
		}
	}
}

// over is 1 over a mass, as P8.6 says.
func over(f float64) float64 {
	if f == 0 || math.IsInf(div(1, f), 0) {
		return 0
	}
	return div(1, f)
}

// wantWeights go by the chapter's words.
func wantWeights(b api.Body) (m, i float64) {
	if b.Kind != api.Free || body.Wild(b) {
		return 0, 0
	}
	whole, _ := mass.Parts(b.Parts)
	return over(whole.Mass), over(whole.Inertia)
}

// overKept hands over bodies that may be kept, and counts them by their kinds; wild ones as the kind 0.
func overKept(t *testing.T, seed, n int, f func(s *source, b api.Body)) {
	t.Helper()
	count := map[uint8]int{}
	s := source(seed)
	for range n {
		b := s.worldly()
		if wantKept(b) != api.OK {
			continue
		}
		if body.Wild(b) {
			count[0]++
		} else {
			count[b.Kind]++
		}
		f(&s, b)
	}
	enough(t, count, n/20, 0, api.Fixed, api.Moved, api.Free)
}

func TestP16_4Still(t *testing.T) {
	overKept(t, 5, 20000, func(s *source, b api.Body) {
		var want api.Still
		if b.Kind != api.Fixed && !body.Wild(b) {
			want.Speed, want.Spin = b.Speed, b.Spin
		}
		want.Mass, want.Inertia = wantWeights(b)
		got, e := body.Still(b)
		isErr(t, e, api.OK, "Still", b)
		if !sameStill(got, want) {
			t.Fatalf("Still(%v) is %v, not %v", b, got, want)
		}
	})
}

func TestP16_4StillEdges(t *testing.T) {
	moving := func(kind uint8, l ...api.Part) api.Body {
		b := thing(kind, l...)
		b.Speed, b.Spin = v(3, minus), 5
		return b
	}
	ball := part(convex(-1, -1, 1, -1, 1, 1, -1, 1), 6) // 24 and 16
	wild := moving(api.Moved, ball)
	wild.Frame.At.X = inf
	wildFree := moving(api.Free, ball)
	wildFree.Frame.Turn = complex(1, none)
	pushed := moving(api.Free, ball)
	pushed.Force, pushed.Torque = v(inf, none), none
	far := moving(api.Free, ball)
	far.Frame = api.Frame{At: v(most, -most), Turn: 5}
	for i, c := range []struct {
		b    api.Body
		want api.Still
	}{
		{moving(api.Free, ball), api.Still{Mass: 1.0 / 24, Inertia: 1.0 / 16, Speed: v(3, minus), Spin: 5}},
		{moving(api.Free, ball, sensor(square(), 7)), api.Still{Mass: 1.0 / 24, Inertia: 1.0 / 16, Speed: v(3, minus), Spin: 5}},
		{moving(api.Moved, ball), api.Still{Speed: v(3, minus), Spin: 5}}, {moving(api.Fixed, ball), api.Still{}}, {wild, api.Still{}}, {wildFree, api.Still{}},
		// Neither forces nor a far place make a body wild.
		{pushed, api.Still{Mass: 1.0 / 24, Inertia: 1.0 / 16, Speed: v(3, minus), Spin: 5}}, {far, api.Still{Mass: 1.0 / 24, Inertia: 1.0 / 16, Speed: v(3, minus), Spin: 5}},
		// So light that 1 over it is infinite.
		{moving(api.Free, part(square(), 0x1p-1060)), api.Still{Speed: v(3, minus), Spin: 5}}, {moving(api.Free, part(square(), 0x1p-1024)), api.Still{Mass: 0x1p1022, Inertia: div(1, mul(0x1p-1024, 8.0/3)), Speed: v(3, minus), Spin: 5}},
	} {
		got, e := body.Still(c.b)
		isErr(t, e, api.OK, "Still", i)
		if !sameStill(got, c.want) {
			t.Errorf("%d: Still is %v, not %v", i, got, c.want)
		}
	}
}

// wantPush goes by P16.5's words.
func wantPush(b api.Body, gravity api.Vec, time float64) api.Body {
	if b.Kind != api.Free || body.Wild(b) {
		return b
	}
	m, i := wantWeights(b)
	b.Speed.X = div(add(b.Speed.X, mul(time, add(gravity.X, mul(b.Force.X, m)))), add(1, mul(time, b.Damp)))
	b.Speed.Y = div(add(b.Speed.Y, mul(time, add(gravity.Y, mul(b.Force.Y, m)))), add(1, mul(time, b.Damp)))
	b.Spin = div(add(b.Spin, mul(time, mul(b.Torque, i))), add(1, mul(time, b.SpinDamp)))
	return b
}

func TestP16_5Push(t *testing.T) {
	overKept(t, 6, 30000, func(s *source, b api.Body) {
		gravity, time := s.place(), s.time()
		got, e := body.Push(b, gravity, time)
		isErr(t, e, api.OK, "Push", b, gravity, time)
		isBody(t, got, wantPush(b, gravity, time), "Push", b, gravity, time)
	})
}

func TestP16_5PushKnown(t *testing.T) {
	b := thing(api.Free, part(convex(-1, -1, 1, -1, 1, 1, -1, 1), 6)) // 24 and 16
	b.Speed, b.Spin, b.Force, b.Torque, b.Damp, b.SpinDamp = v(1, 2), 3, v(48, -24), 32, 1, 3
	b.Frame.At, b.Calm, b.Asleep = v(7, 8), 4, true
	want := copyOf(b)
	want.Speed, want.Spin = v((1+0.5*(10+2))/1.5, (2+0.5*(20-1))/1.5), (3+0.5*2)/2.5
	got, e := body.Push(b, v(10, 20), 0.5)
	isErr(t, e, api.OK, "Push", b)
	// Forces stay: a step, not this call, takes them away; nor does it wake.
	isBody(t, got, want, "Push", b)

	// Forces may be any; what comes of them is wild.
	b.Force, b.Torque = v(inf, none), -inf
	got, e = body.Push(b, v(0, 0), 1)
	isErr(t, e, api.OK, "Push", b)
	want.Speed, want.Spin, want.Force, want.Torque = v(inf, none), -inf, v(inf, none), -inf
	isBody(t, got, want, "Push", b)
	if !body.Wild(got) {
		t.Error("what was pushed without an end is not wild")
	}
}

func TestP16_5PushRefuses(t *testing.T) {
	for _, kind := range []uint8{api.Fixed, api.Moved, api.Free} {
		b := pairOf(kind)
		refused := func(gravity api.Vec, time float64) {
			t.Helper()
			got, e := body.Push(b, gravity, time)
			isErr(t, e, api.ErrReal, "Push", gravity, time)
			isBody(t, got, api.Body{}, "Push beside an error", gravity, time)
		}
		for _, f := range wrongReals() {
			refused(v(f, 0), 1)
			refused(v(0, f), 1)
			refused(v(f, f), none)
		}
		for _, f := range wrongTimes() {
			refused(v(0, 0), f)
		}
		for _, g := range []float64{api.MaxReal, -api.MaxReal, 0, minus, tiny} {
			for _, time := range []float64{api.MinReal, api.MaxReal} {
				got, e := body.Push(b, v(g, -g), time)
				isErr(t, e, api.OK, "Push", g, time)
				isBody(t, got, wantPush(b, v(g, -g), time), "Push", g, time)
			}
		}
	}
}

func TestP16_6Go(t *testing.T) {
	overKept(t, 7, 30000, func(s *source, b api.Body) {
		time := s.time()
		want := b
		if b.Kind != api.Fixed && !body.Wild(b) {
			want.Frame = frame.Move(b.Frame, b.Speed, b.Spin, time)
		}
		got, e := body.Go(b, time)
		isErr(t, e, api.OK, "Go", b, time)
		isBody(t, got, want, "Go", b, time)
	})
}

func TestP16_6GoKnown(t *testing.T) {
	for _, kind := range []uint8{api.Fixed, api.Moved, api.Free} {
		b := pairOf(kind)
		b.Frame = api.Frame{At: v(1, 2), Turn: 1i}
		b.Speed, b.Spin, b.Force, b.Torque, b.Damp = v(4, -8), 4, v(5, 6), 7, 8
		want := copyOf(b)
		if kind != api.Fixed {
			want.Frame = api.Frame{At: v(3, -2), Turn: -1}
		}
		got, e := body.Go(b, 0.5)
		isErr(t, e, api.OK, "Go", kind)
		isBody(t, got, want, "Go", kind)
		for _, f := range wrongTimes() {
			got, e := body.Go(b, f)
			isErr(t, e, api.ErrReal, "Go", f)
			isBody(t, got, api.Body{}, "Go beside an error", f)
		}
		for _, f := range []float64{api.MinReal, api.MaxReal} {
			_, e := body.Go(b, f)
			isErr(t, e, api.OK, "Go", f)
		}
		b.Speed.Y = inf
		got, e = body.Go(b, 1)
		isErr(t, e, api.OK, "Go of a wild one", kind)
		isBody(t, got, b, "Go of a wild one", kind)
	}
}

// nowhere is the box of what does not lie.
func nowhere() api.Box { return api.Box{Low: v(none, none), High: v(none, none)} }

// wantBoxes go by P16.7's words; lie tells how many of the parts lie.
func wantBoxes(b api.Body) (l []api.Box, lie int) {
	for _, p := range b.Parts {
		s, e := shape.Put(p.Shape, b.Frame)
		if body.Wild(b) || e != api.OK {
			l = append(l, nowhere())
			continue
		}
		about, _ := shape.Box(s)
		l = append(l, about)
		lie++
	}
	return l, lie
}

func TestP16_7Boxes(t *testing.T) {
	all, some, no := 0, 0, 0
	overKept(t, 8, 30000, func(s *source, b api.Body) {
		if s.below(8) == 0 && !body.Wild(b) {
			// So far away, small parts are spoiled by rounding, great ones not.
			b.Frame = api.Frame{At: v(0x1p30*s.part(), 0x1p30*s.part()), Turn: s.turn()}
			if k := s.below(len(b.Parts)); b.Parts[k].Shape.Kind == api.Polygon {
				for i, p := range b.Parts[k].Shape.Points {
					b.Parts[k].Shape.Points[i] = v(p.X*0x1p-18, p.Y*0x1p-18)
				}
			}
			if wantKept(b) != api.OK {
				return
			}
		}
		want, lie := wantBoxes(b)
		switch lie {
		case 0:
			no++
		case len(b.Parts):
			all++
		default:
			some++
		}
		got, e := body.Boxes(b)
		isErr(t, e, api.OK, "Boxes", b)
		if !slices.EqualFunc(got, want, sameBox) {
			t.Fatalf("Boxes(%v) is %v, not %v", b, got, want)
		}
	})
	if all < 5000 || some < 100 || no < 2000 {
		t.Errorf("too few: %v %v %v", all, some, no)
	}
}

func TestP16_7BoxesKnown(t *testing.T) {
	few := func(kind uint8) api.Body {
		b := thing(kind, part(square(), 1), sensor(disc(1, 3, 0), 1), part(pill(1, 0, 0, 4, 0), 1))
		b.Frame = api.Frame{At: v(10, 20), Turn: 1i}
		return b
	}
	lying := []api.Box{{Low: v(8, 20), High: v(10, 22)}, {Low: v(9, 22), High: v(11, 24)}, {Low: v(9, 19), High: v(11, 25)}}
	no := []api.Box{nowhere(), nowhere(), nowhere()}
	check := func(b api.Body, want []api.Box, name string) {
		t.Helper()
		got, e := body.Boxes(b)
		isErr(t, e, api.OK, "Boxes", name)
		if !slices.EqualFunc(got, want, sameBox) {
			t.Errorf("%s: Boxes is %v, not %v", name, got, want)
		}
	}
	for _, kind := range []uint8{api.Fixed, api.Moved, api.Free} {
		check(few(kind), lying, "three parts")
		for i := range 10 {
			for _, f := range []float64{none, inf, -inf} {
				b := few(kind)
				if i < 8 {
					*motion(&b)[i] = f
				} else {
					setTurn(&b, i-8, f)
				}
				want := no
				if i >= 5 && i <= 7 { // Force and Torque
					want = lying
				}
				check(b, want, "a float that is not finite")
			}
		}
		b := few(kind)
		b.Frame.Turn = complex(0, 1+0x1p-20)
		check(b, no, "a turn that drifted")
		b = few(kind)
		b.Frame.At.X = past
		check(b, no, "too far away")
		b = few(kind)
		b.Frame = api.Frame{At: v(api.MaxReal, 0), Turn: -1}
		got, _ := body.Boxes(b)
		if !slices.EqualFunc(got, []api.Box{{Low: v(api.MaxReal-2, -2), High: v(api.MaxReal, 0)}, {Low: v(api.MaxReal-4, -1), High: v(api.MaxReal-2, 1)}, {Low: v(api.MaxReal-5, -1), High: v(api.MaxReal+1, 1)}}, func(a, b api.Box) bool { return a == b }) {
			t.Errorf("at MaxReal Boxes is %v", got)
		}
		b.Frame.Turn = 1
		check(b, no, "its points too far away")
	}
	// One does not lie, its neighbours do.
	small := convex(0, 0, 0x1p-29, 0, 0x1p-29, 0x1p-29, 0, 0x1p-29)
	b := thing(api.Fixed, part(square(), 1), part(small, 1), part(square(), 1))
	b.Frame.At.X = 0x1p30
	there := api.Box{Low: v(0x1p30, 0), High: v(0x1p30+2, 2)}
	check(b, []api.Box{there, nowhere(), there}, "one that is spoiled")
}

// wantAt goes by P16.8's words.
func wantAt(b api.Body, p api.Vec) api.Vec {
	arm := less(p, b.Frame.At)
	return v(add(b.Speed.X, -mul(b.Spin, arm.Y)), add(b.Speed.Y, mul(b.Spin, arm.X)))
}

func TestP16_8At(t *testing.T) {
	overKept(t, 9, 30000, func(s *source, b api.Body) {
		p := s.place()
		got, e := body.At(b, p)
		isErr(t, e, api.OK, "At", b, p)
		if !sameVec(got, wantAt(b, p)) {
			t.Fatalf("At(%v, %v) is %v, not %v", b, p, got, wantAt(b, p))
		}
	})
	for _, kind := range []uint8{api.Fixed, api.Moved, api.Free} {
		b := pairOf(kind)
		b.Frame = api.Frame{At: v(1, 1), Turn: 1i}
		b.Speed, b.Spin = v(10, 20), 2
		got, e := body.At(b, v(4, 2))
		isErr(t, e, api.OK, "At", kind)
		if got != v(8, 26) {
			t.Errorf("At is %v", got)
		}
		for _, f := range wrongReals() {
			for _, p := range []api.Vec{v(f, 0), v(0, f)} {
				got, e := body.At(b, p)
				isErr(t, e, api.ErrReal, "At", p)
				if !sameVec(got, v(0, 0)) {
					t.Errorf("At tells %v beside an error", got)
				}
			}
		}
		b.Spin = inf
		if got, e := body.At(b, v(1, api.MaxReal)); e != api.OK || !sameVec(got, v(-inf, none)) {
			t.Errorf("At of a wild one is %v, %v", got, e)
		}
	}
}

// wantKick goes by P16.8's words.
func wantKick(b api.Body, impulse, p api.Vec) api.Body {
	if b.Kind != api.Free || body.Wild(b) {
		return b
	}
	m, i := wantWeights(b)
	b.Speed = v(add(b.Speed.X, mul(m, impulse.X)), add(b.Speed.Y, mul(m, impulse.Y)))
	b.Spin = add(b.Spin, mul(i, cross(less(p, b.Frame.At), impulse)))
	return b
}

func TestP16_8Kick(t *testing.T) {
	overKept(t, 10, 30000, func(s *source, b api.Body) {
		impulse, p := s.place(), s.place()
		got, e := body.Kick(b, impulse, p)
		isErr(t, e, api.OK, "Kick", b, impulse, p)
		isBody(t, got, wantKick(b, impulse, p), "Kick", b, impulse, p)
	})
}

func TestP16_8KickKnown(t *testing.T) {
	for _, kind := range []uint8{api.Fixed, api.Moved, api.Free} {
		b := thing(kind, part(convex(-1, -1, 1, -1, 1, 1, -1, 1), 6)) // 24 and 16
		b.Frame = api.Frame{At: v(1, 1), Turn: 1i}
		b.Speed, b.Spin, b.Force, b.Torque, b.Calm = v(10, 20), 2, v(3, 4), 5, 6
		b.Asleep = kind == api.Free
		want := copyOf(b)
		if kind == api.Free {
			want.Speed, want.Spin = v(12, 17), 2+float64(3*-72-1*48)/16
		}
		got, e := body.Kick(b, v(48, -72), v(4, 2))
		isErr(t, e, api.OK, "Kick", kind)
		// It does not wake.
		isBody(t, got, want, "Kick", kind)
		for _, f := range wrongReals() {
			for _, l := range [][2]api.Vec{{v(f, 0), v(0, 0)}, {v(0, f), v(0, 0)}, {v(0, 0), v(f, 0)}, {v(0, 0), v(0, f)}, {v(f, f), v(f, f)}} {
				got, e := body.Kick(b, l[0], l[1])
				isErr(t, e, api.ErrReal, "Kick", l)
				isBody(t, got, api.Body{}, "Kick beside an error", l)
			}
		}
		_, e = body.Kick(b, v(api.MaxReal, -api.MaxReal), v(-api.MaxReal, api.MaxReal))
		isErr(t, e, api.OK, "Kick", kind)
	}
}

// changes make each field of a body another one.
func changes() []func(b *api.Body) {
	l := []func(b *api.Body){
		func(b *api.Body) { b.Kind++ }, func(b *api.Body) { b.Damp++ }, func(b *api.Body) { b.SpinDamp++ }, func(b *api.Body) { b.Asleep = !b.Asleep }, func(b *api.Body) { b.Calm++ }, func(b *api.Body) { b.Bullet = !b.Bullet },
		func(b *api.Body) { b.Damp = minus }, func(b *api.Body) { b.SpinDamp = none },
		func(b *api.Body) { b.Frame.Turn = complex(real(b.Frame.Turn), minus) }, func(b *api.Body) { b.Frame.Turn = complex(none, imag(b.Frame.Turn)) },
		func(b *api.Body) { b.Parts = b.Parts[:len(b.Parts)-1] }, func(b *api.Body) { b.Parts = append(b.Parts, api.Part{}) }, func(b *api.Body) { b.Parts = nil }, func(b *api.Body) { slices.Reverse(b.Parts) },
	}
	for i := range 8 {
		l = append(l, func(b *api.Body) { *motion(b)[i] += 1 }, func(b *api.Body) { *motion(b)[i] = minus }, func(b *api.Body) { *motion(b)[i] = none })
	}
	for i := range 2 {
		for _, f := range []func(p *api.Part){
			func(p *api.Part) { p.Density++ }, func(p *api.Part) { p.Friction++ }, func(p *api.Part) { p.Bounce++ }, func(p *api.Part) { p.Density = none }, func(p *api.Part) { p.Friction = minus }, func(p *api.Part) { p.Bounce = minus },
			func(p *api.Part) { p.Sensor = !p.Sensor }, func(p *api.Part) { p.Layer++ }, func(p *api.Part) { p.Mask++ }, func(p *api.Part) { p.Shape.Kind++ }, func(p *api.Part) { p.Shape.Radius++ }, func(p *api.Part) { p.Shape.Radius = none },
			func(p *api.Part) { p.Shape.Points[0].X++ }, func(p *api.Part) { p.Shape.Points[0].Y = minus }, func(p *api.Part) { p.Shape.Points = append(p.Shape.Points, v(0, 0)) }, func(p *api.Part) { p.Shape.Points = nil },
		} {
			l = append(l, func(b *api.Body) { f(&b.Parts[i]) })
		}
	}
	return l
}

func TestP16_9Same(t *testing.T) {
	if !body.Same(api.Body{}, api.Body{}) {
		t.Error("the zero body is not the same as itself")
	}
	for i, change := range changes() {
		a, b := pairOf(api.Free), pairOf(api.Free)
		if !body.Same(a, b) {
			t.Fatal("two alike are not the same")
		}
		change(&b)
		if body.Same(a, b) || body.Same(b, a) {
			t.Errorf("after the change %d they are the same still", i)
		}
		change(&a)
		if !body.Same(a, b) || !body.Same(b, a) {
			t.Errorf("both changed by %d they are not the same", i)
		}
	}
	s := source(11)
	for range 20000 {
		a := s.worldly()
		b := copyOf(a)
		if s.below(2) == 0 {
			s.spoil(&b)
		}
		if body.Same(a, b) != sameBody(a, b) || body.Same(b, a) != sameBody(a, b) {
			t.Fatalf("Same(%v, %v) is not %v", a, b, sameBody(a, b))
		}
	}
}

// No numbers of whatever bits, and lists without elements, nil or not, are the same.
func TestP16_9SameAlike(t *testing.T) {
	fill := func(f float64) api.Body {
		b := pairOf(77)
		for _, p := range motion(&b) {
			*p = f
		}
		b.Frame.Turn, b.Damp, b.SpinDamp = complex(f, f), f, f
		p := &b.Parts[0]
		p.Density, p.Friction, p.Bounce, p.Shape.Radius, p.Shape.Points[1] = f, f, f, f, v(f, f)
		return b
	}
	other := math.Float64frombits(0xfff0000000000123)
	if !body.Same(fill(none), fill(other)) || !body.Same(fill(other), fill(none)) {
		t.Error("no numbers are not the same")
	}
	if !body.Same(fill(inf), fill(inf)) || body.Same(fill(inf), fill(-inf)) || body.Same(fill(0), fill(minus)) {
		t.Error("Same of infinities or of noughts")
	}
	a, b := api.Body{}, api.Body{Parts: []api.Part{}}
	if !body.Same(a, b) || !body.Same(b, a) {
		t.Error("lists without parts are not the same")
	}
	a.Parts, b.Parts = []api.Part{{}}, []api.Part{{Shape: api.Shape{Points: []api.Vec{}}}}
	if !body.Same(a, b) || !body.Same(b, a) {
		t.Error("lists without points are not the same")
	}
}

func TestP16_9Twin(t *testing.T) {
	s := source(12)
	for range 20000 {
		b := s.worldly()
		s.spoil(&b)
		isBody(t, body.Twin(b), b, "Twin", b)
	}
	isBody(t, body.Twin(api.Body{}), api.Body{}, "Twin")
	many := thing(9, slices.Repeat([]api.Part{part(square(), 1)}, 100)...)
	isBody(t, body.Twin(many), many, "Twin of many parts")
}

// roomy is a list with spare room on both sides, and the whole that it lies in.
func roomy[T any](l []T, filler T) (given, whole []T) {
	whole = slices.Concat([]T{filler}, l, []T{filler, filler, filler})
	return whole[1 : 1+len(l)], whole
}

// answers are those of all calls that answer a body.
func answers(b api.Body) []api.Body {
	made, _ := body.Made(b)
	pushed, _ := body.Push(b, v(1, 2), 0.5)
	gone, _ := body.Go(b, 0.5)
	kicked, _ := body.Kick(b, v(1, 2), v(3, 4))
	return []api.Body{made, pushed, gone, kicked, body.Twin(b)}
}

// scribble writes into all that a body's lists reach, their spare room too.
func scribble(b api.Body) {
	l := b.Parts[:cap(b.Parts)]
	for i := range l {
		p := l[i].Shape.Points[:cap(l[i].Shape.Points)]
		for j := range p {
			p[j] = v(77, 78)
		}
		l[i] = api.Part{Density: 79}
	}
}

func TestP16_9Memory(t *testing.T) {
	overKept(t, 13, 10000, func(s *source, b api.Body) {
		var rooms, roomsKept [][]api.Vec
		for i := range b.Parts {
			l, all := roomy(b.Parts[i].Shape.Points, v(91, 92))
			b.Parts[i].Shape.Points = l
			rooms, roomsKept = append(rooms, all), append(roomsKept, slices.Clone(all))
		}
		var parts []api.Part
		b.Parts, parts = roomy(b.Parts, part(disc(7, 8, 9), 5))
		kept := copyOf(api.Body{Parts: parts})
		body.Check(b)
		body.Wild(b)
		body.Still(b)
		body.Boxes(b)
		body.At(b, v(1, 2))
		body.Same(b, b)
		all := answers(b)
		for i, a := range all {
			before := make([]api.Body, len(all))
			for j, other := range all {
				before[j] = copyOf(other)
			}
			scribble(a)
			for j, other := range all {
				if j != i && !sameBody(other, before[j]) {
					t.Fatalf("answers %d and %d share memory", i, j)
				}
			}
		}
		if !sameBody(api.Body{Parts: parts}, kept) {
			t.Fatalf("what was handed in, %v, was changed to %v", kept.Parts, parts)
		}
		for i := range rooms {
			if !slices.EqualFunc(rooms[i], roomsKept[i], sameVec) {
				t.Fatalf("the points that were handed in, %v, were changed to %v", roomsKept[i], rooms[i])
			}
		}
	})
}

// Parts that are handed in with one list of points have lists of their own in what is answered.
func TestP16_9MemoryShared(t *testing.T) {
	shared := square()
	b := thing(api.Free, part(shared, 1), part(shared, 2), part(shared, 3))
	want := copyOf(b)
	centred := copyOf(b)
	for i := range centred.Parts {
		centred.Parts[i].Shape.Points = points(-1, -1, 1, -1, 1, 1, -1, 1)
	}
	for i, a := range answers(b) {
		l := want.Parts
		if i == 0 {
			l = centred.Parts
		}
		if !slices.EqualFunc(a.Parts, l, samePart) {
			t.Errorf("answer %d has the parts %v", i, a.Parts)
		}
		a.Parts[1].Shape.Points[0] = v(55, 56)
		_ = append(a.Parts[0].Shape.Points, v(57, 58))
		if !samePart(a.Parts[0], l[0]) || !samePart(a.Parts[2], l[2]) {
			t.Errorf("in the answer %d lists share memory", i)
		}
		isBody(t, b, want, "what was handed in", i)
	}
}

// weighty makes a body of which P16.10 speaks; false: it made none.
func (s *source) weighty() (api.Body, bool) {
	b := thing(api.Free, s.parts()...)
	b.Frame = api.Frame{At: s.middling(), Turn: s.turn()}
	far := math.Ldexp(1, s.below(5))
	for i := range b.Parts {
		p := &b.Parts[i]
		p.Density = math.Ldexp(1+s.part(), s.below(20)-10)
		if s.below(3) == 0 {
			// Long and thin, just not lighter than it may be.
			length := math.Ldexp(1+s.part(), s.below(9))
			wide := 0x1.02p-8 / length
			way := s.turn()
			p.Shape = convex(0, -wide, length, -wide/2, length, wide/2, 0, wide)
			for j, at := range p.Shape.Points {
				q := complex(at.X, at.Y) * way
				p.Shape.Points[j] = v(real(q), imag(q))
			}
		}
		way := v(1600*s.part()-800, 1600*s.part()-800)
		for j, at := range p.Shape.Points {
			p.Shape.Points[j] = v(at.X+way.X/far, at.Y+way.Y/far)
		}
		if anyOutside(-1024, 1024, p.Shape.Radius) {
			return b, false
		}
		for _, at := range p.Shape.Points {
			if anyOutside(-1024, 1024, at.X, at.Y) {
				return b, false
			}
		}
		if m, e := mass.Of(p.Shape, 1); e != api.OK || m.Mass < 0x1p-8 {
			return b, false
		}
	}
	m, e := mass.Parts(b.Parts)
	return b, e == api.OK && m.Mass >= 0x1p-10 && !anyOutside(-1024, 1024, m.Centre.X, m.Centre.Y)
}

func TestP16_10MadeWeighs(t *testing.T) {
	s := source(14)
	count := map[int]int{}
	for range 40000 {
		b, is := s.weighty()
		if !is {
			continue
		}
		made, e := body.Made(b)
		if e != api.OK {
			continue
		}
		count[min(len(b.Parts), 3)]++
		isErr(t, wantKept(made), api.OK, "the keeping error", made)
		before, _ := mass.Parts(b.Parts)
		after, _ := mass.Parts(made.Parts)
		if math.Abs(after.Mass-before.Mass) > before.Mass*0x1p-16 || math.Abs(after.Inertia-before.Inertia) > before.Inertia*0x1p-16 {
			t.Fatalf("%v weighs %v, made %v", b, before, after)
		}
	}
	enough(t, count, 1000, 1, 2, 3)
}

func TestP16_10MadeIsKept(t *testing.T) {
	s := source(15)
	made := 0
	for range 20000 {
		m, e := body.Made(s.body())
		if e != api.OK {
			continue
		}
		made++
		isErr(t, wantKept(m), api.OK, "the keeping error", m)
		isErr(t, body.Check(m), api.OK, "Check", m)
		_, e = body.Still(m)
		isErr(t, e, api.OK, "Still", m)
	}
	if made < 10000 {
		t.Errorf("too few: %v", made)
	}
}

func TestP16_10PushKeeps(t *testing.T) {
	overKept(t, 16, 20000, func(s *source, b api.Body) {
		b.Force, b.Torque, b.Damp, b.SpinDamp = v(s.few()*0, 0), minus, 0, minus
		got, e := body.Push(b, v(0, minus), s.time())
		isErr(t, e, api.OK, "Push", b)
		if body.Wild(b) {
			isBody(t, got, b, "Push of a wild one", b)
		} else if got.Speed != b.Speed || got.Spin != b.Spin {
			t.Fatalf("Push of %v, by nothing, is %v", b, got)
		}
	})
}

func TestP16_10Unchanged(t *testing.T) {
	overKept(t, 17, 20000, func(s *source, b api.Body) {
		wild := body.Wild(b)
		pushed, e := body.Push(b, s.place(), s.time())
		isErr(t, e, api.OK, "Push", b)
		kicked, e := body.Kick(b, s.place(), s.place())
		isErr(t, e, api.OK, "Kick", b)
		gone, e := body.Go(b, s.time())
		isErr(t, e, api.OK, "Go", b)
		if b.Kind != api.Free || wild {
			isBody(t, pushed, b, "Push")
			isBody(t, kicked, b, "Kick")
		}
		if b.Kind == api.Fixed || wild {
			isBody(t, gone, b, "Go")
		}
		if anyOutside(-api.MaxReal, api.MaxReal, b.Frame.At.X, b.Frame.At.Y) {
			return
		}
		kicked, e = body.Kick(b, s.place(), b.Frame.At)
		isErr(t, e, api.OK, "Kick", b)
		if kicked.Spin != b.Spin && !(wild && same(kicked.Spin, b.Spin)) {
			t.Fatalf("Kick of %v at its place has the spin %v", b, kicked.Spin)
		}
	})
}

// greater is a body in a world that is so many times as great.
func greater(b api.Body, by float64) api.Body {
	times := func(a api.Vec, n float64) api.Vec { return v(a.X*n, a.Y*n) }
	b = copyOf(b)
	b.Frame.At, b.Speed = times(b.Frame.At, by), times(b.Speed, by)
	b.Force, b.Torque = times(b.Force, by*by*by), b.Torque*by*by*by*by
	for i := range b.Parts {
		s := &b.Parts[i].Shape
		s.Radius *= by
		for j, p := range s.Points {
			s.Points[j] = times(p, by)
		}
	}
	return b
}

func TestP16_10PowersOfTwo(t *testing.T) {
	s := source(18)
	count := map[uint8]int{}
	for range 30000 {
		b := s.body()
		b.Speed, b.Spin, b.Force, b.Torque, b.Damp, b.SpinDamp = v(s.plain(), s.plain()), s.plain(), v(s.plain(), s.plain()), s.plain(), s.part(), s.part()
		b.Frame.At = s.middling()
		for i := range b.Parts {
			b.Parts[i].Density = 0.001 + s.part()
		}
		by := math.Ldexp(1, s.below(13)-6)
		great := greater(b, by)
		if wantKept(b) != api.OK || wantKept(great) != api.OK {
			continue
		}
		count[b.Kind]++
		gravity, impulse, p, time := s.middling(), s.middling(), s.middling(), s.time()
		pushed, _ := body.Push(b, gravity, time)
		got, e := body.Push(great, v(gravity.X*by, gravity.Y*by), time)
		isErr(t, e, api.OK, "Push", great)
		isBody(t, got, greater(pushed, by), "Push", b, by)
		kicked, _ := body.Kick(b, impulse, p)
		got, e = body.Kick(great, v(impulse.X*by*by*by, impulse.Y*by*by*by), v(p.X*by, p.Y*by))
		isErr(t, e, api.OK, "Kick", great)
		isBody(t, got, greater(kicked, by), "Kick", b, by)
		gone, _ := body.Go(b, time)
		got, e = body.Go(great, time)
		isErr(t, e, api.OK, "Go", great)
		isBody(t, got, greater(gone, by), "Go", b, by)
		at, _ := body.At(b, p)
		gotAt, e := body.At(great, v(p.X*by, p.Y*by))
		isErr(t, e, api.OK, "At", great)
		if !sameVec(gotAt, v(at.X*by, at.Y*by)) {
			t.Fatalf("At of %v is %v, %v times as great %v", b, at, by, gotAt)
		}
	}
	enough(t, count, 2000, api.Fixed, api.Moved, api.Free)
}

// ball is the chapter's B.
func ball() api.Body {
	b := thing(api.Free, part(disc(1, 3, 0), 1/math.Pi))
	b.Frame = api.Frame{At: v(1, 1), Turn: 1i}
	return b
}

func TestExamplesCheck(t *testing.T) {
	for i, c := range []struct {
		change func(b *api.Body)
		e      api.Errno
	}{
		{func(b *api.Body) {}, api.OK}, {func(b *api.Body) { b.Kind = 0 }, api.ErrBody}, {func(b *api.Body) { b.Frame.Turn = 2 }, api.ErrTurn}, {func(b *api.Body) { b.Damp = -1 }, api.ErrReal},
		{func(b *api.Body) { b.Asleep, b.Kind = true, api.Moved }, api.ErrBody}, {func(b *api.Body) { b.Kind, b.Spin = api.Fixed, 1 }, api.ErrBody}, {func(b *api.Body) { b.Parts = nil }, api.ErrBody},
		{func(b *api.Body) { b.Parts[0].Density = 0 }, api.ErrMass}, {func(b *api.Body) { b.Kind, b.Parts[0].Density = api.Fixed, 0 }, api.OK}, {func(b *api.Body) { b.Parts[0].Bounce = 2 }, api.ErrReal}, {func(b *api.Body) { b.Parts[0].Friction = none }, api.ErrReal},
	} {
		b := ball()
		c.change(&b)
		isErr(t, body.Check(b), c.e, "Check", i)
	}
}

func TestExamples(t *testing.T) {
	made, e := body.Made(ball())
	if e != api.OK || made.Parts[0].Shape.Points[0] != v(0, 0) || made.Frame.At != v(1, 4) {
		t.Errorf("Made is %v, %v", made, e)
	}
	b := ball()
	b.Kind = api.Fixed
	if s, e := body.Still(b); e != api.OK || s != (api.Still{}) {
		t.Errorf("Still is %v, %v", s, e)
	}
	b.Kind, b.Speed = api.Moved, v(1, 2)
	if s, e := body.Still(b); e != api.OK || s != (api.Still{Speed: v(1, 2)}) {
		t.Errorf("Still is %v, %v", s, e)
	}
	if c, e := body.Push(ball(), v(0, -8), 0.5); e != api.OK || c.Speed != v(0, -4) {
		t.Errorf("Push is %v, %v", c, e)
	}
	b = ball()
	b.Speed = v(2, 0)
	if c, e := body.Go(b, 0.5); e != api.OK || c.Frame.At != v(2, 1) {
		t.Errorf("Go is %v, %v", c, e)
	}
	b.Speed, b.Damp = v(4, 0), 2
	if c, e := body.Push(b, v(0, 0), 0.5); e != api.OK || c.Speed != v(2, 0) {
		t.Errorf("Push is %v, %v", c, e)
	}
	if l, e := body.Boxes(ball()); e != api.OK || len(l) != 1 || l[0] != (api.Box{Low: v(0, 3), High: v(2, 5)}) {
		t.Errorf("Boxes is %v, %v", l, e)
	}
	b = ball()
	b.Frame.At = v(0x1p41, 0)
	if l, e := body.Boxes(b); e != api.OK || len(l) != 1 || !sameBox(l[0], nowhere()) {
		t.Errorf("Boxes is %v, %v", l, e)
	}
	b = ball()
	b.Spin = 2
	if p, e := body.At(b, v(1, 2)); e != api.OK || p != v(-2, 0) {
		t.Errorf("At is %v, %v", p, e)
	}
	if c, e := body.Kick(made, v(1, 0), v(1, 5)); e != api.OK || math.Abs(c.Speed.X-1) > 0x1p-50 || c.Speed.Y != 0 || math.Abs(c.Spin+2) > 0x1p-50 {
		t.Errorf("Kick is %v, %v", c, e)
	}
	b = ball()
	b.Speed.X = none
	c, e := body.Go(b, 1)
	isErr(t, e, api.OK, "Go")
	isBody(t, c, b, "Go")
	c, e = body.Push(b, v(0, -8), 1)
	isErr(t, e, api.OK, "Push")
	isBody(t, c, b, "Push")
}
