package rows_test

import (
	"math"
	"slices"
	"testing"

	"tumble/api"
	"tumble/body"
	"tumble/rows"
)

// measured is a row whose floats are nought or, without their signs, from 2^-least to 2^most, and whose Push lies between its ends.
func (s *source) measured(least, most int) api.Row {
	r := api.Row{A: 2, B: 5, Of: -1}
	for _, f := range rowFloats(&r) {
		*f = s.sized(least, most)
	}
	ends := []float64{r.Push, s.sized(least, most), s.sized(least, most)}
	slices.Sort(ends)
	r.Low, r.Push, r.High, r.Ratio = ends[0], ends[1], ends[2], math.Abs(r.Ratio)
	switch s.below(6) {
	case 0, 1:
		r.High = inf
	case 2:
		r.Low, r.Push, r.High = 0, math.Abs(r.Push), inf
	case 3:
		r.Push = s.pick(r.Low, r.High)
	}
	return r
}

// weighed is such a still.
func (s *source) weighed(least, most int) api.Still {
	f := func() float64 { return s.sized(least, most) }
	return api.Still{Mass: math.Abs(f()), Inertia: math.Abs(f()), Speed: v(f(), f()), Spin: f()}
}

// products are those that make up a row's speed, without their signs, summed.
func products(r api.Row, a, b api.Still) float64 {
	sum := 0.0
	for _, f := range []float64{r.WayA.X * a.Speed.X, r.WayA.Y * a.Speed.Y, r.TurnA * a.Spin, r.WayB.X * b.Speed.X, r.WayB.Y * b.Speed.Y, r.TurnB * b.Spin} {
		sum += math.Abs(f)
	}
	return sum
}

// kinetic is the energy of some stills that can be moved.
func kinetic(l ...api.Still) float64 {
	sum := 0.0
	for _, s := range l {
		if s.Mass > 0 {
			sum += dot(s.Speed, s.Speed) / (2 * s.Mass)
		}
		if s.Inertia > 0 {
			sum += s.Spin * s.Spin / (2 * s.Inertia)
		}
	}
	return sum
}

func TestP20_8Solved(t *testing.T) {
	s, count := source(21), map[string]int{}
	for i := range 60000 {
		// Every other time from the whole span, else such as come up in a world.
		span := []int{40, 6}[i%2]
		r, a, b := s.measured(span, span), s.weighed(span, span), s.weighed(span, span)
		if s.below(4) == 0 {
			a.Mass, a.Inertia = 0, 0
		}
		w := weightOf(r, a, b)
		got, x, y, e := rows.One(r, a, b)
		isErr(t, e, api.OK, "One", r, a, b)
		if !(got.Push >= r.Low && got.Push <= r.High) {
			t.Fatalf("One(%v, %v, %v) is pushed by %v", r, a, b, got.Push)
		}
		if got.Push == r.Low || got.Push == r.High || !(w > 0) {
			count["at an end"]++
			continue
		}
		speed, e := rows.Speed(got, x, y)
		isErr(t, e, api.OK, "Speed", got, x, y)
		goesIn := products(r, a, b) + products(r, x, y) + math.Abs(r.Bias) + w*math.Abs(r.Push) + w*math.Abs(got.Push)
		if off := math.Abs(speed - r.Bias); !(off <= 0x1p-30*goesIn) {
			t.Fatalf("One(%v, %v, %v) has the speed %v behind it, with %v", r, a, b, speed, got)
		}
		count["solved"]++
	}
	enough(t, count, 10000, "at an end", "solved")
}

func TestP20_8Energy(t *testing.T) {
	s, count := source(22), map[string]int{}
	for i := range 60000 {
		span := []int{40, 6}[i%2]
		r, a, b := s.measured(span, span), s.weighed(span, span), s.weighed(span, span)
		r.Bias = s.pick(0, minus)
		for _, l := range []*api.Still{&a, &b} {
			if s.below(4) == 0 {
				l.Mass, l.Inertia = 0, 0
			}
			if l.Mass == 0 {
				l.Speed = v(0, minus)
			}
			if l.Inertia == 0 {
				l.Spin = minus
			}
		}
		w := weightOf(r, a, b)
		got, x, y, e := rows.One(r, a, b)
		isErr(t, e, api.OK, "One", r, a, b)
		ahead, behind := kinetic(a, b), kinetic(x, y)
		if room := 0x1p-30 * (ahead + w*(r.Push*r.Push) + w*(got.Push*got.Push)); !(behind <= ahead+room) {
			t.Fatalf("One(%v, %v, %v) has the energy %v, and %v ahead: %v %v %v", r, a, b, behind, ahead, got, x, y)
		}
		if behind < ahead {
			count["less"]++
		} else {
			count["no less"]++
		}
	}
	enough(t, count, 5000, "less", "no less")
}

func TestP20_8NoneMoves(t *testing.T) {
	s := source(23)
	for range 4000 {
		r, a, b := s.row(), s.still(), s.still()
		a.Mass, a.Inertia, b.Mass, b.Inertia = s.pick(0, minus), s.pick(0, minus), s.pick(0, minus), s.pick(0, minus)
		got, x, y, e := rows.One(r, a, b)
		if e != api.OK || !sameRow(got, r) || !sameStill(x, a) || !sameStill(y, b) {
			t.Fatalf("One(%v, %v, %v) is %v %v %v %v", r, a, b, got, x, y, e)
		}
		if x, y, e := rows.Warm(r, a, b); e != api.OK || !sameStill(x, a) || !sameStill(y, b) {
			t.Fatalf("Warm(%v, %v, %v) is %v %v %v", r, a, b, x, y, e)
		}
	}
}

// comesBack tells whether a float came back, but for 2^-40 of what went in.
func comesBack(f, back, change float64) bool {
	return math.Abs(back-f) <= 0x1p-40*(math.Abs(f)+math.Abs(change))
}

func TestP20_9WarmBack(t *testing.T) {
	s, moved := source(24), 0
	for i := range 40000 {
		span := []int{40, 6}[i%2]
		r, a, b := s.measured(span, span), s.weighed(span, span), s.weighed(span, span)
		x, y, e := rows.Warm(r, a, b)
		isErr(t, e, api.OK, "Warm", r, a, b)
		if x.Speed != a.Speed || x.Spin != a.Spin {
			moved++
		}
		back := r
		back.Push = -r.Push
		x, y, e = rows.Warm(back, x, y)
		isErr(t, e, api.OK, "Warm", back, x, y)
		for _, c := range []struct {
			from, to api.Still
			way      api.Vec
			turn     float64
		}{{a, x, r.WayA, r.TurnA}, {b, y, r.WayB, r.TurnB}} {
			m := c.from.Mass * r.Push
			if !comesBack(c.from.Speed.X, c.to.Speed.X, m*c.way.X) || !comesBack(c.from.Speed.Y, c.to.Speed.Y, m*c.way.Y) || !comesBack(c.from.Spin, c.to.Spin, c.from.Inertia*r.Push*c.turn) {
				t.Fatalf("Warm(%v) of %v and back is %v", r, c.from, c.to)
			}
		}
	}
	if moved < 10000 {
		t.Errorf("so few were moved: %d", moved)
	}
}

// scaledRow and scaledStill are 2^k times as great, as P20.10 has it.
func scaledRow(r api.Row, k int) api.Row {
	by, push := math.Ldexp(1, k), math.Ldexp(1, 3*k)
	r.TurnA, r.TurnB, r.Bias = r.TurnA*by, r.TurnB*by, r.Bias*by
	r.Push, r.Low, r.High = r.Push*push, r.Low*push, r.High*push
	return r
}

func scaledStill(s api.Still, k int) api.Still {
	s.Mass, s.Inertia = math.Ldexp(s.Mass, -2*k), math.Ldexp(s.Inertia, -4*k)
	s.Speed = times(s.Speed, math.Ldexp(1, k))
	return s
}

// isScaled holds all calls of what is 2^k times as great against those of what is not.
func isScaled(t *testing.T, r api.Row, a, b api.Still, k int) {
	t.Helper()
	small, great := isTaken(t, r, a, b), isTaken(t, scaledRow(r, k), scaledStill(a, k), scaledStill(b, k))
	if !same(great.speed, math.Ldexp(small.speed, k)) || !same(great.weight, math.Ldexp(small.weight, -2*k)) {
		t.Fatalf("2^%d times: speed and weight %v %v, not %v %v", k, great.speed, great.weight, small.speed, small.weight)
	}
	if !sameStill(great.warmA, scaledStill(small.warmA, k)) || !sameStill(great.warmB, scaledStill(small.warmB, k)) {
		t.Fatalf("2^%d times: warmed %v %v, not %v %v", k, great.warmA, great.warmB, small.warmA, small.warmB)
	}
	if !sameRow(great.row, scaledRow(small.row, k)) || !sameStill(great.oneA, scaledStill(small.oneA, k)) || !sameStill(great.oneB, scaledStill(small.oneB, k)) {
		t.Fatalf("2^%d times: %v %v %v, not %v %v %v", k, great.row, great.oneA, great.oneB, small.row, small.oneA, small.oneB)
	}
}

func TestP20_10PowersOfTwo(t *testing.T) {
	s, count := source(25), map[string]int{}
	for range 20000 {
		r, a, b := s.measured(12, 12), s.weighed(12, 12), s.weighed(12, 12)
		isScaled(t, r, a, b, s.below(17)-8)
		_, _, _, what := oneOf(r, a, b)
		count[what]++
	}
	enough(t, count, 1000, "solved", "at the low end", "at the high end")
}

// scaledBody, scaledTouch have lengths and speeds 2^k times as great, impulses 8^k times; at one density a body weighs 4^k times as much.
func scaledBody(b api.Body, k int) api.Body {
	by := math.Ldexp(1, k)
	b = body.Twin(b)
	for i := range b.Parts {
		p := &b.Parts[i].Shape
		p.Radius *= by
		for n := range p.Points {
			p.Points[n] = times(p.Points[n], by)
		}
	}
	b.Frame.At, b.Speed = times(b.Frame.At, by), times(b.Speed, by)
	return b
}

func scaledTouch(t api.Touch, k int) api.Touch {
	by, push := math.Ldexp(1, k), math.Ldexp(1, 3*k)
	t = touchCopy(t)
	for i := range t.Points {
		p := &t.Points[i]
		p.At, p.Depth, p.Push, p.Drag = times(p.At, by), p.Depth*by, p.Push*push, p.Drag*push
	}
	return t
}

// calm is a body without floats that overflow.
func (s *source) calm() api.Body {
	for {
		b := s.body()
		if math.Abs(b.Spin) < 99 && math.Abs(b.Speed.X) < 99 && math.Abs(b.Speed.Y) < 99 && math.Abs(b.Frame.At.X) < 99 && math.Abs(b.Frame.At.Y) < 99 && math.Abs(real(b.Frame.Turn)) < 2 && math.Abs(imag(b.Frame.Turn)) < 2 {
			return b
		}
	}
}

// TestW5Touch: the rows of a touch that is 2^k times as great are so, too, and what One makes of them.
func TestW5Touch(t *testing.T) {
	s, count := source(26), map[string]int{}
	for range 6000 {
		x, y, k := s.calm(), s.calm(), s.below(17)-8
		c := s.touch(len(x.Parts), len(y.Parts))
		set := api.Settings{Step: 1.0 / 60, Share: 0.2, Slop: s.part(), Threshold: s.part()}
		scaled := set
		scaled.Slop, scaled.Threshold = math.Ldexp(set.Slop, k), math.Ldexp(set.Threshold, k)
		small := mustTouch(t, c, x, y, set, 1)
		great := mustTouch(t, scaledTouch(c, k), scaledBody(x, k), scaledBody(y, k), scaled, 1)
		if len(small) != len(great) {
			t.Fatalf("%v, %v", small, great)
		}
		for i, r := range small {
			if !sameRow(great[i], scaledRow(r, k)) {
				t.Fatalf("2^%d times: %v, not %v", k, great[i], r)
			}
			if r.Bias > 0 {
				count["biased"]++
			}
			isScaled(t, r, still(x), still(y), k)
		}
	}
	enough(t, count, 1000, "biased")
}

// TestW7Touch: touches without bounce, friction, depth and impulses of before bring no energy, however often their rows have their turns.
func TestW7Touch(t *testing.T) {
	s, less := source(27), 0
	for range 4000 {
		x, y := s.calm(), s.calm()
		for _, b := range []*api.Body{&x, &y} {
			if b.Kind == api.Moved {
				b.Speed, b.Spin = v(0, minus), 0
			}
			for i := range b.Parts {
				b.Parts[i].Bounce, b.Parts[i].Friction = s.pick(0, minus), s.pick(0, minus)
			}
		}
		c := s.touch(len(x.Parts), len(y.Parts))
		set := api.Settings{Step: 1.0 / 60, Share: 1, Slop: 1, Threshold: s.part()}
		for i := range c.Points {
			c.Points[i].Push, c.Points[i].Drag = 0, minus
		}
		l := mustTouch(t, c, x, y, set, 0)
		for _, r := range l {
			if r.Bias != 0 || r.Ratio != 0 {
				t.Fatalf("a row that asks for something: %v", r)
			}
		}
		a, b := still(x), still(y)
		ahead := kinetic(a, b)
		for range 4 {
			for i := range l {
				var e api.Errno
				l[i], a, b, e = rows.One(l[i], a, b)
				isErr(t, e, api.OK, "One", l[i])
			}
		}
		behind := kinetic(a, b)
		if !(behind <= ahead*(1+0x1p-24)) {
			t.Fatalf("the energy %v became %v: %v", ahead, behind, l)
		}
		if behind < ahead*(1-0x1p-24) {
			less++
		}
		for i := 0; i < len(l); i += 2 {
			if l[i].Push != 0 {
				t.Fatalf("a drag without friction: %v", l[i])
			}
		}
	}
	if less < 1000 {
		t.Errorf("so few lost energy: %d", less)
	}
}
