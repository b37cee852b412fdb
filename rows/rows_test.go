package rows_test

import (
	"math"
	"slices"
	"testing"

	"tumble/api"
	"tumble/body"
	"tumble/rows"
)

// What follows says the chapter's words once more, float by float.

func less(a, b api.Vec) api.Vec { return v(a.X-b.X, a.Y-b.Y) }

func dot(a, b api.Vec) float64 { return float64(a.X*b.X) + float64(a.Y*b.Y) }

func cross(a, b api.Vec) float64 { return float64(a.X*b.Y) - float64(a.Y*b.X) }

func isFinite(l ...float64) bool {
	for _, f := range l {
		if math.IsNaN(f) || math.IsInf(f, 0) {
			return false
		}
	}
	return true
}

func clamped(a, low, high float64) float64 {
	switch {
	case !(a > low):
		return low
	case a > high:
		return high
	}
	return a
}

// greater is num.Most's.
func greater(a, b float64) float64 {
	if math.IsNaN(a) || b > a || b == 0 && a == 0 && !math.Signbit(b) {
		return b
	}
	return a
}

func speedOf(r api.Row, a, b api.Still) float64 {
	sum := dot(r.WayA, a.Speed)
	sum = sum + float64(r.TurnA*a.Spin)
	sum = sum + dot(r.WayB, b.Speed)
	return sum + float64(r.TurnB*b.Spin)
}

func weightOf(r api.Row, a, b api.Still) float64 {
	sum := float64(a.Mass * dot(r.WayA, r.WayA))
	sum = sum + float64(a.Inertia*float64(r.TurnA*r.TurnA))
	sum = sum + float64(b.Mass*dot(r.WayB, r.WayB))
	return sum + float64(b.Inertia*float64(r.TurnB*r.TurnB))
}

func pushedBy(s api.Still, p float64, way api.Vec, turn float64) api.Still {
	if m := float64(s.Mass * p); s.Mass != 0 {
		s.Speed = v(s.Speed.X+float64(m*way.X), s.Speed.Y+float64(m*way.Y))
	}
	if s.Inertia != 0 {
		s.Spin = s.Spin + float64(s.Inertia*float64(p*turn))
	}
	return s
}

func bothPushed(r api.Row, a, b api.Still, p float64) (api.Still, api.Still) {
	return pushedBy(a, p, r.WayA, r.TurnA), pushedBy(b, p, r.WayB, r.TurnB)
}

// oneOf is what One has to answer of things that it takes; what tells which case it was.
func oneOf(r api.Row, a, b api.Still) (api.Row, api.Still, api.Still, string) {
	s, w := speedOf(r, a, b), weightOf(r, a, b)
	q := clamped(r.Push+(r.Bias-s)/w, r.Low, r.High)
	switch {
	case !(w > 0):
		return r, a, b, "weightless"
	case !isFinite(w):
		return r, a, b, "too heavy"
	case !isFinite(r.Bias - s):
		return r, a, b, "too fast"
	case !isFinite(q):
		return r, a, b, "pushed too far"
	case !isFinite(q - r.Push):
		return r, a, b, "changed too much"
	}
	a, b = bothPushed(r, a, b, q-r.Push)
	r.Push = q
	switch q {
	case r.Low:
		return r, a, b, "at the low end"
	case r.High:
		return r, a, b, "at the high end"
	}
	return r, a, b, "solved"
}

// asked are the answers of all calls of a row and two stills; e is the first error, if all tell the same one.
type asked struct {
	speed, weight  float64
	warmA, warmB   api.Still
	row            api.Row
	oneA, oneB     api.Still
	e              api.Errno
	tellsTheSame   bool
	isNoughtBeside bool
}

func ask(r api.Row, a, b api.Still) asked {
	var l asked
	var e [4]api.Errno
	l.speed, e[0] = rows.Speed(r, a, b)
	l.weight, e[1] = rows.Weight(r, a, b)
	l.warmA, l.warmB, e[2] = rows.Warm(r, a, b)
	l.row, l.oneA, l.oneB, e[3] = rows.One(r, a, b)
	l.e = e[0]
	l.tellsTheSame = e == [4]api.Errno{e[0], e[0], e[0], e[0]}
	var zero api.Still
	l.isNoughtBeside = same(l.speed, 0) && same(l.weight, 0) && sameStill(l.warmA, zero) && sameStill(l.warmB, zero) &&
		sameRow(l.row, api.Row{}) && sameStill(l.oneA, zero) && sameStill(l.oneB, zero)
	return l
}

// isRefused asks all calls of what may not be.
func isRefused(t *testing.T, r api.Row, a, b api.Still) {
	t.Helper()
	if l := ask(r, a, b); l.e != api.ErrRow || !l.tellsTheSame || !l.isNoughtBeside {
		t.Fatalf("of %v %v %v they tell %v", r, a, b, l)
	}
}

// isTaken asks all calls of what may be.
func isTaken(t *testing.T, r api.Row, a, b api.Still) asked {
	t.Helper()
	l := ask(r, a, b)
	if l.e != api.OK || !l.tellsTheSame {
		t.Fatalf("of %v %v %v they tell %v", r, a, b, l)
	}
	return l
}

// isAnswered holds all calls against the formulas, and answers the case of One.
func isAnswered(t *testing.T, r api.Row, a, b api.Still) string {
	t.Helper()
	l := isTaken(t, r, a, b)
	if s := speedOf(r, a, b); !same(l.speed, s) {
		t.Fatalf("Speed(%v, %v, %v) is %v, not %v", r, a, b, l.speed, s)
	}
	if w := weightOf(r, a, b); !same(l.weight, w) {
		t.Fatalf("Weight(%v, %v, %v) is %v, not %v", r, a, b, l.weight, w)
	}
	if x, y := bothPushed(r, a, b, r.Push); !sameStill(l.warmA, x) || !sameStill(l.warmB, y) {
		t.Fatalf("Warm(%v, %v, %v) is %v %v, not %v %v", r, a, b, l.warmA, l.warmB, x, y)
	}
	row, x, y, what := oneOf(r, a, b)
	if !sameRow(l.row, row) || !sameStill(l.oneA, x) || !sameStill(l.oneB, y) {
		t.Fatalf("One(%v, %v, %v) is\n%v %v %v, not\n%v %v %v", r, a, b, l.row, l.oneA, l.oneB, row, x, y)
	}
	return what
}

func TestExamples(t *testing.T) {
	n, p := api.Still{}, falling(-2)
	if l := isTaken(t, upward(), n, p); l.speed != -2 || l.weight != 1 {
		t.Errorf("Speed and Weight of R, N, P: %v", l)
	}
	biased, warm, short := upward(), upward(), upward()
	biased.Bias, warm.Push, short.High = 1, 1, 0.5
	for i, c := range []struct {
		r     api.Row
		b     api.Still
		push  float64
		speed float64
	}{
		{upward(), p, 2, 0}, {biased, p, 3, 1}, {upward(), falling(3), 0, 3}, {warm, falling(3), 0, 2}, {upward(), n, 0, 0}, {short, p, 0.5, -1.5},
	} {
		r, a, b, e := rows.One(c.r, n, c.b)
		row, still := c.r, c.b
		row.Push, still.Speed.Y = c.push, c.speed
		if e != api.OK || !sameRow(r, row) || !sameStill(a, n) || !sameStill(b, still) {
			t.Errorf("One %d: %v %v %v %v", i, r, a, b, e)
		}
	}
	warm.Push = 2
	if a, b, e := rows.Warm(warm, n, p); e != api.OK || !sameStill(a, n) || !sameStill(b, falling(0)) {
		t.Errorf("Warm: %v %v %v", a, b, e)
	}
	of, ends, low := upward(), upward(), upward()
	of.Of, ends.Low, ends.High, low.Low = 1, 1, 0, none
	isErr(t, rows.Check(upward(), 1, 2), api.OK, "Check")
	isErr(t, rows.Check(upward(), 1, 1), api.ErrRow, "Check")
	for _, r := range []api.Row{of, ends, low} {
		isErr(t, rows.Check(r, 1, 2), api.ErrRow, "Check", r)
	}
	if f, e := rows.Mix(api.Part{Friction: 0.5, Bounce: 0.25}, api.Part{Friction: 2}); f != 1 || e != 0.25 {
		t.Errorf("Mix: %v %v", f, e)
	}
	c, x, y := standing(), thing(api.Fixed, 0, 0), thing(api.Free, 0, 1.5)
	if l, e := rows.Touch(c, x, y, quarter(), 4); e != api.OK || len(l) != 2 || l[0].Of != 5 || l[1].Of != -1 {
		t.Errorf("Touch: %v %v", l, e)
	}
	c.Sensor = true
	if l, e := rows.Touch(c, x, y, quarter(), 4); e != api.OK || len(l) != 0 {
		t.Errorf("Touch of a Sensor: %v %v", l, e)
	}
}

// spoiltRows are such as may not be, whatever rows and bodies there are.
func spoiltRows() []api.Row {
	var l []api.Row
	add := func(change func(r *api.Row)) {
		r := upward()
		change(&r)
		l = append(l, r)
	}
	for i := range 9 {
		for _, f := range []float64{none, inf, -inf} {
			add(func(r *api.Row) { *rowFloats(r)[i] = f })
		}
	}
	for _, f := range []float64{-1, -tiny, -most} {
		add(func(r *api.Row) { r.Ratio = f })
	}
	for _, n := range []int{-1, leastInt} {
		add(func(r *api.Row) { r.A = n })
		add(func(r *api.Row) { r.B = n })
		add(func(r *api.Row) { r.A, r.B = n, n })
	}
	for _, n := range []int{0, 1, mostInt} {
		add(func(r *api.Row) { r.A, r.B = n, n })
	}
	for _, n := range []int{-2, leastInt} {
		add(func(r *api.Row) { r.Of = n })
	}
	for _, e := range [][2]float64{{1, 0}, {tiny, 0}, {tiny, minus}, {0, -tiny}, {inf, most}, {inf, -inf}, {0, -inf}, {none, 0}, {0, none}, {none, none}, {none, inf}, {-inf, none}} {
		add(func(r *api.Row) { r.Low, r.High = e[0], e[1] })
	}
	return l
}

// oddRows are such as may be, at the edges of it; all belong among 8 rows and 2 bodies.
func oddRows() []api.Row {
	var l []api.Row
	add := func(change func(r *api.Row)) {
		r := upward()
		change(&r)
		l = append(l, r)
	}
	for i := range 9 {
		for _, f := range []float64{0, minus, tiny, most, -tiny, -most} {
			if i < 8 || f >= 0 {
				add(func(r *api.Row) { *rowFloats(r)[i] = f })
			}
		}
	}
	add(func(r *api.Row) { r.A, r.B = 1, 0 })
	for _, n := range []int{-1, 0, 7} {
		add(func(r *api.Row) { r.Of = n })
	}
	for _, e := range [][2]float64{{0, 0}, {minus, 0}, {0, minus}, {2, 2}, {-inf, inf}, {-inf, -inf}, {inf, inf}, {most, inf}, {-inf, -most}, {-1, tiny}} {
		add(func(r *api.Row) { r.Low, r.High = e[0], e[1] })
	}
	// Whether its own Push lies between its ends is not asked.
	add(func(r *api.Row) { r.Low, r.High, r.Push = 1, 2, 5 })
	return l
}

func TestP20_1Check(t *testing.T) {
	for _, r := range spoiltRows() {
		isErr(t, rows.Check(r, mostInt, mostInt), api.ErrRow, "Check", r)
		isErr(t, rows.Check(r, 8, 2), api.ErrRow, "Check", r)
	}
	for _, r := range oddRows() {
		isErr(t, rows.Check(r, 8, 2), api.OK, "Check", r)
	}
	for i, c := range []struct {
		a, b, of, rows, bodies int
		want                   api.Errno
	}{
		{0, 1, -1, 0, 2, api.OK}, {0, 1, 0, 1, 2, api.OK}, {0, 1, 0, 0, 2, api.ErrRow}, {0, 1, 5, 5, 2, api.ErrRow}, {0, 1, 5, 6, 2, api.OK},
		{0, 1, -1, 0, 1, api.ErrRow}, {1, 0, -1, 0, 1, api.ErrRow}, {0, 1, -1, 0, 0, api.ErrRow}, {0, 1, -1, 0, -1, api.ErrRow}, {0, 1, -1, 0, leastInt, api.ErrRow},
		{4, 2, -1, 0, 4, api.ErrRow}, {2, 4, -1, 0, 4, api.ErrRow}, {4, 2, -1, 0, 5, api.OK}, {2, 4, -1, 0, 5, api.OK},
		{mostInt, 0, -1, 0, mostInt, api.ErrRow}, {mostInt - 1, 0, -1, 0, mostInt, api.OK}, {0, 1, mostInt, mostInt, 2, api.ErrRow}, {0, 1, mostInt - 1, mostInt, 2, api.OK},
		// -1 is not below -1.
		{0, 1, -1, -1, 2, api.ErrRow}, {0, 1, -1, leastInt, 2, api.ErrRow},
	} {
		r := upward()
		r.A, r.B, r.Of = c.a, c.b, c.of
		isErr(t, rows.Check(r, c.rows, c.bodies), c.want, "Check", i, c)
	}
}

func TestP20_2Refused(t *testing.T) {
	for _, r := range spoiltRows() {
		isRefused(t, r, api.Still{}, falling(-2))
	}
	for _, r := range oddRows() {
		isAnswered(t, r, api.Still{}, falling(-2))
		// How many rows and bodies there are is not asked.
		r.A, r.B, r.Of = mostInt, mostInt-1, mostInt
		isAnswered(t, r, api.Still{}, falling(-2))
	}
	for _, f := range []float64{none, inf, -inf, -1, -tiny, -most} {
		for _, bad := range []api.Still{{Mass: f}, {Inertia: f}, {Mass: f, Inertia: f}} {
			isRefused(t, upward(), bad, falling(-2))
			isRefused(t, upward(), falling(-2), bad)
			isRefused(t, upward(), bad, bad)
		}
	}
	for _, f := range []float64{0, minus, tiny, 1, most} {
		for _, odd := range []api.Still{{Mass: f}, {Inertia: f}, {Mass: f, Inertia: f, Speed: v(minus, minus), Spin: minus}} {
			isAnswered(t, upward(), odd, falling(-2))
			isAnswered(t, upward(), falling(-2), odd)
		}
	}
	for _, f := range []float64{none, inf, -inf, past, most, -most} {
		for _, fast := range []api.Still{{Speed: v(f, 0)}, {Speed: v(0, f)}, {Spin: f}, {Mass: 1, Inertia: 1, Speed: v(f, f), Spin: f}} {
			isAnswered(t, upward(), fast, falling(-2))
			isAnswered(t, upward(), falling(-2), fast)
		}
	}
}

// TestP20_2Known: each of the four terms counts, from the left, and each product by itself.
func TestP20_2Known(t *testing.T) {
	r := api.Row{A: 1, B: 0, WayA: v(2, 3), WayB: v(5, 7), TurnA: 11, TurnB: 13, Push: 2, Low: -inf, High: inf, Of: -1}
	a := api.Still{Mass: 17, Inertia: 19, Speed: v(23, 29), Spin: 31}
	b := api.Still{Mass: 37, Inertia: 41, Speed: v(43, 47), Spin: 53}
	l := isTaken(t, r, a, b)
	if l.speed != 2*23+3*29+11*31+5*43+7*47+13*53 || l.weight != 17*(4+9)+19*121+37*(25+49)+41*169 {
		t.Errorf("speed and weight: %v", l)
	}
	if !sameStill(l.warmA, api.Still{Mass: 17, Inertia: 19, Speed: v(23+34*2, 29+34*3), Spin: 31 + 19*22}) || !sameStill(l.warmB, api.Still{Mass: 37, Inertia: 41, Speed: v(43+74*5, 47+74*7), Spin: 53 + 41*26}) {
		t.Errorf("Warm: %v %v", l.warmA, l.warmB)
	}
	// From the right the two ones would count.
	r = api.Row{A: 1, WayA: v(1, 0), TurnA: 1, WayB: v(0, 1), TurnB: 1, Of: -1}
	a, b = api.Still{Mass: 0x1p53, Inertia: 1, Speed: v(0x1p53, 0), Spin: 1}, api.Still{Mass: 1, Inertia: 1, Speed: v(0, 1), Spin: -0x1p53}
	if l := isTaken(t, r, a, b); l.speed != 0 || l.weight != 0x1p53 {
		t.Errorf("sums that are not from the left: %v %v", l.speed, l.weight)
	}
	// Of the four terms each is a minus nought.
	a, b = api.Still{Speed: v(minus, minus), Spin: minus}, api.Still{Speed: v(minus, minus), Spin: minus}
	if l := isTaken(t, api.Row{A: 1, WayA: v(1, 1), TurnA: 1, WayB: v(1, 1), TurnB: 1, Of: -1}, a, b); !same(l.speed, minus) {
		t.Errorf("a sum that does not begin with its first: %v", l.speed)
	}
	// Nought times what is infinite is no number.
	if l := isTaken(t, api.Row{A: 1, WayA: v(0x1p600, 0), WayB: v(0, 1), Of: -1}, api.Still{}, falling(-2)); !math.IsNaN(l.weight) {
		t.Errorf("a weight of nought times infinite: %v", l.weight)
	}
	// The push goes into the turn first: its product is without an end, that of the other two is not.
	r = api.Row{A: 1, TurnA: 0x1p600, WayB: v(0x1p-600, 0), TurnB: 0x1p-600, Push: 0x1p600, Of: -1}
	a, b = api.Still{Inertia: 0x1p-600}, api.Still{Mass: 0x1p600, Inertia: 0x1p600}
	if l := isTaken(t, r, a, b); !same(l.warmA.Spin, inf) || !same(l.warmB.Speed.X, inf) || !same(l.warmB.Spin, 0x1p600) {
		t.Errorf("products in another order: %v %v", l.warmA, l.warmB)
	}
}

// TestP20_2Still: what can't be moved keeps each bit, however it is pushed.
func TestP20_2Still(t *testing.T) {
	for _, nought := range []float64{0, minus} {
		for _, push := range []float64{0, minus, 1, -1, most} {
			for _, turn := range []float64{0, 1, most} {
				r := api.Row{A: 1, WayA: v(-1, 1), WayB: v(1, most), TurnA: -turn, TurnB: turn, Push: push, Low: -inf, High: inf, Of: -1}
				for _, s := range []api.Still{
					{Mass: nought, Inertia: 2, Speed: v(minus, 0), Spin: minus}, {Mass: 2, Inertia: nought, Speed: v(minus, 0), Spin: minus},
					{Mass: nought, Inertia: nought, Speed: v(minus, minus), Spin: minus}, {Mass: nought, Inertia: nought, Speed: v(inf, none), Spin: -inf},
				} {
					for _, other := range []api.Still{{Mass: 1, Inertia: 1}, {Mass: nought, Inertia: nought}} {
						isAnswered(t, r, s, other)
						isAnswered(t, r, other, s)
						l, m := isTaken(t, r, s, other), isTaken(t, r, other, s)
						for _, got := range []api.Still{l.warmA, l.oneA, m.warmB, m.oneB} {
							if s.Mass == 0 && !sameVec(got.Speed, s.Speed) || s.Inertia == 0 && !same(got.Spin, s.Spin) || !same(got.Mass, s.Mass) || !same(got.Inertia, s.Inertia) {
								t.Fatalf("%v became %v", s, got)
							}
						}
					}
				}
			}
		}
	}
	// Nought that is added makes nought of minus nought, where a body can be moved.
	r := upward()
	l := isTaken(t, r, api.Still{}, api.Still{Mass: 1, Inertia: 1, Speed: v(minus, minus), Spin: minus})
	if !sameStill(l.warmB, api.Still{Mass: 1, Inertia: 1}) {
		t.Errorf("Warm by nought: %v", l.warmB)
	}
}

func TestP20_2P20_3Formulas(t *testing.T) {
	s, count := source(1), map[string]int{}
	for range 60000 {
		r, a, b := s.row(), s.still(), s.still()
		if s.below(3) == 0 {
			r.Push = clamped(clamped(r.Push, r.Low, r.High), -most, most)
		} else if s.below(10) == 0 {
			r.Low, r.High, r.Push = -most, most, s.pick(-most, most)
			r.Bias = -r.Push
		}
		count[isAnswered(t, r, a, b)]++
	}
	enough(t, count, 100, "weightless", "too heavy", "too fast", "pushed too far", "changed too much", "at the low end", "at the high end", "solved")
}

func TestP20_3Edges(t *testing.T) {
	row := func(change func(r *api.Row)) api.Row {
		r := upward()
		change(&r)
		return r
	}
	for i, c := range []struct {
		r     api.Row
		b     api.Still
		what  string
		push  float64
		speed float64
	}{
		{upward(), api.Still{Mass: tiny, Speed: v(0, -2)}, "pushed too far", 0, -2},
		{row(func(r *api.Row) { r.High = 3 }), api.Still{Mass: 0x1p-1074, Speed: v(0, -2)}, "at the high end", 3, -2},
		{row(func(r *api.Row) { r.High = most }), api.Still{Mass: 0x1p-1022, Speed: v(0, -2)}, "solved", 0x1p1023, 0},
		{row(func(r *api.Row) { r.Low, r.High, r.Push = -most, most, -most }), api.Still{Mass: 0x1p-1074, Speed: v(0, -2)}, "changed too much", -most, -2},
		{row(func(r *api.Row) { r.WayB.Y = 0x1p600 }), falling(-2), "too heavy", 0, -2},
		{upward(), falling(-inf), "too fast", 0, -inf}, {upward(), falling(inf), "too fast", 0, inf}, {upward(), falling(none), "too fast", 0, none},
		{row(func(r *api.Row) { r.Bias = most }), falling(-most), "too fast", 0, -most},
		{upward(), api.Still{Speed: v(0, -2)}, "weightless", 0, -2}, {upward(), api.Still{Inertia: 1, Speed: v(0, -2)}, "weightless", 0, -2},
		{row(func(r *api.Row) { r.Low, r.High, r.Push = inf, inf, 1 }), falling(-2), "pushed too far", 1, -2},
		{row(func(r *api.Row) { r.Low, r.High, r.Push = -inf, -inf, 1 }), falling(-2), "pushed too far", 1, -2},
		// A Push beyond its ends is brought back.
		{row(func(r *api.Row) { r.Push, r.High = 5, 1 }), falling(0), "at the high end", 1, -4},
		{row(func(r *api.Row) { r.Push, r.Low = -5, -1 }), falling(9), "at the low end", -1, 13},
		{row(func(r *api.Row) { r.Low = -inf }), falling(3), "solved", -3, 0},
		{row(func(r *api.Row) { r.Low, r.High = -1, 1 }), falling(3), "at the low end", -1, 2},
		// Clamp: what is not above Low is Low, with its sign.
		{row(func(r *api.Row) { r.Push = minus }), falling(0), "at the low end", 0, 0},
		{row(func(r *api.Row) { r.Low = minus }), falling(0), "at the low end", minus, 0},
		// Neither Of nor Ratio is asked.
		{row(func(r *api.Row) { r.Of, r.Ratio = 0, 0 }), falling(-2), "solved", 2, 0},
	} {
		if what := isAnswered(t, c.r, api.Still{}, c.b); what != c.what {
			t.Errorf("row %d is %q, not %q", i, what, c.what)
		}
		r, a, b, _ := rows.One(c.r, api.Still{}, c.b)
		want, still := c.r, c.b
		want.Push, still.Speed.Y = c.push, c.speed
		if !sameRow(r, want) || !sameStill(a, api.Still{}) || !sameStill(b, still) {
			t.Errorf("row %d: %v %v %v", i, r, a, b)
		}
	}
	// Both bodies take their share, the first one back.
	r := upward()
	r.TurnA, r.TurnB = -1, 2
	_, a, b, _ := rows.One(r, api.Still{Mass: 1, Inertia: 2}, api.Still{Mass: 1, Inertia: 0.5, Speed: v(0, -12)})
	if !sameStill(a, api.Still{Mass: 1, Inertia: 2, Speed: v(0, -2), Spin: -4}) || !sameStill(b, api.Still{Mass: 1, Inertia: 0.5, Speed: v(0, -10), Spin: 2}) {
		t.Errorf("both bodies: %v %v", a, b)
	}
}

func TestP20_4Mix(t *testing.T) {
	for i, c := range []struct{ f, g, friction, d, e, bounce float64 }{
		{0.5, 2, 1, 0.25, 0, 0.25}, {0.5, 0.5, 0.5, 0, 1, 1}, {0, 9, 0, 0.5, 0.5, 0.5}, {0.25, 1, 0.5, 0.75, 0.5, 0.75},
		{minus, 1, minus, minus, 0, 0}, {0, 0, 0, 0, minus, 0}, {2, 1, math.Sqrt2, minus, minus, minus},
		{api.MaxReal, api.MaxReal, api.MaxReal, 1, 1, 1}, {0x1p600, 0x1p600, inf, 0, 0, 0}, {tiny, tiny, 0, 0, 0, 0},
		{-1, 1, none, none, 0.5, 0.5}, {-1, -4, 2, 0.5, none, 0.5}, {none, 1, none, none, none, none}, {inf, 1, inf, inf, 2, inf}, {inf, 0, none, -1, -2, -1},
	} {
		a, b := api.Part{Friction: c.f, Bounce: c.d, Density: none}, api.Part{Friction: c.g, Bounce: c.e, Sensor: true}
		friction, bounce := rows.Mix(a, b)
		again, more := rows.Mix(b, a)
		if !same(friction, c.friction) || !same(bounce, c.bounce) || !same(friction, again) || !same(bounce, more) {
			t.Errorf("row %d: %v %v, the other way %v %v", i, friction, bounce, again, more)
		}
	}
	s := source(2)
	for range 2000 {
		a, b := api.Part{Friction: s.any(), Bounce: s.any()}, api.Part{Friction: s.any(), Bounce: s.any()}
		friction, bounce := rows.Mix(a, b)
		if !same(friction, math.Sqrt(float64(a.Friction*b.Friction))) || !same(bounce, greater(a.Bounce, b.Bounce)) {
			t.Fatalf("Mix(%v, %v) is %v %v", a, b, friction, bounce)
		}
	}
}

// rowsOf are what Touch has to answer of things that it takes; what counts why a push has its Bias.
func rowsOf(t api.Touch, x, y api.Body, s api.Settings, first int, what map[string]int) []api.Row {
	a, _ := body.Still(x)
	b, _ := body.Still(y)
	n := t.Normal
	d := v(-n.Y, n.X)
	one, other := x.Parts[t.Pair.PartA], y.Parts[t.Pair.PartB]
	f, e := math.Sqrt(float64(one.Friction*other.Friction)), greater(one.Bounce, other.Bounce)
	var l []api.Row
	for i, at := range t.Points {
		ra, rb := less(at.At, x.Frame.At), less(at.At, y.Frame.At)
		drag := api.Row{A: t.Pair.A, B: t.Pair.B, WayA: v(-d.X, -d.Y), WayB: d, TurnA: -cross(ra, d), TurnB: cross(rb, d), Push: at.Drag, Of: first + 2*i + 1, Ratio: f}
		push := api.Row{A: t.Pair.A, B: t.Pair.B, WayA: v(-n.X, -n.Y), WayB: n, TurnA: -cross(ra, n), TurnB: cross(rb, n), High: inf, Push: at.Push, Of: -1}
		p, q := 0.0, 0.0
		if speed := speedOf(push, a, b); speed < -s.Threshold {
			p = -float64(e * speed)
			what["fast"]++
		}
		if at.Depth > s.Slop {
			q = float64(float64(s.Share/s.Step) * (at.Depth - s.Slop))
			what["deep"]++
		}
		push.Bias = greater(p, q)
		switch {
		case p > q && q > 0:
			what["bounces out"]++
		case q > p && p > 0:
			what["mended out"]++
		case p == 0 && q == 0:
			what["rests"]++
		}
		l = append(l, drag, push)
	}
	return l
}

func mustTouch(t *testing.T, c api.Touch, x, y api.Body, s api.Settings, first int) []api.Row {
	t.Helper()
	l, e := rows.Touch(c, x, y, s, first)
	isErr(t, e, api.OK, "Touch", c, x, y, s, first)
	return l
}

func TestP20_5Rows(t *testing.T) {
	s, what, count := source(3), map[string]int{}, map[string]int{}
	for range 20000 {
		x, y := s.body(), s.body()
		c, set, first := s.touch(len(x.Parts), len(y.Parts)), s.settings(), []int{0, 1, s.below(1 << 20), maxFirst}[s.below(4)]
		if s.below(6) == 0 {
			c.Sensor = true
			if l := mustTouch(t, c, x, y, set, first); len(l) != 0 {
				t.Fatalf("rows of a Sensor: %v", l)
			}
			count["sensor"]++
			continue
		}
		got, want := mustTouch(t, c, x, y, set, first), rowsOf(c, x, y, set, first, what)
		if !sameRows(got, want) {
			t.Fatalf("Touch(%v, %v, %v, %v, %v)\nare %v\nnot %v", c, x, y, set, first, got, want)
		}
		for _, r := range got {
			// What floats without an end make may not be; a step leaves such rows out.
			if rows.Check(r, maxFirst+20, 18) == api.OK {
				count["may be"]++
			} else {
				count["may not be"]++
			}
		}
		if len(c.Points) == api.MaxPoints {
			count["many points"]++
		}
	}
	enough(t, what, 100, "fast", "deep", "bounces out", "mended out", "rests")
	enough(t, count, 100, "sensor", "may be", "may not be", "many points")
}

func TestP20_5Known(t *testing.T) {
	x, y := thing(api.Moved, 1, 2), thing(api.Moved, 5, 3)
	x.Speed, x.Spin, y.Speed, y.Spin = v(3, 1), 2, v(-2, 4), -1
	x.Parts, y.Parts = append(x.Parts, disc(), disc()), append(y.Parts, disc())
	x.Parts[2].Friction, x.Parts[2].Bounce, y.Parts[1].Friction, y.Parts[1].Bounce = 2, 0.25, 8, 0.125
	c := api.Touch{Pair: api.Pair{A: 9, PartA: 2, B: 4, PartB: 1}, Normal: v(1, 0), Points: []api.Point{
		{At: v(3, 3), Depth: 0.5, ID: 7, Push: 1, Drag: 2}, {At: v(3, -1), Depth: 3.25, ID: 8, Push: 3, Drag: -4},
	}}
	// The arms are (2, 1) (-2, 0), (2, -3) (-2, -4); the pushes' speeds -3 + 2 - 2 - 0 and -3 - 6 - 2 - 4.
	want := []api.Row{
		{A: 9, B: 4, WayA: v(0, -1), WayB: v(minus, 1), TurnA: -2, TurnB: -2, Push: 2, Of: 11, Ratio: 4},
		{A: 9, B: 4, WayA: v(-1, 0), WayB: v(1, 0), TurnA: 1, TurnB: 0, Bias: 0.75, High: inf, Push: 1, Of: -1},
		{A: 9, B: 4, WayA: v(0, -1), WayB: v(minus, 1), TurnA: -2, TurnB: -2, Push: -4, Of: 13, Ratio: 4},
		{A: 9, B: 4, WayA: v(-1, 0), WayB: v(1, 0), TurnA: -3, TurnB: 4, Bias: 3.75, High: inf, Push: 3, Of: -1},
	}
	numbers := func(l []api.Row) []api.Row {
		l = slices.Clone(l)
		for i := range l {
			for _, f := range rowFloats(&l[i]) {
				*f += 0 // a minus nought is a nought here
			}
		}
		return l
	}
	if l := mustTouch(t, c, x, y, quarter(), 10); !sameRows(numbers(l), numbers(want)) {
		t.Errorf("two points:\n%v\nnot\n%v", l, want)
	}
	// Now the depths weigh more: 4 times what is beyond a quarter.
	set := quarter()
	set.Share = 1
	set.Step = 0.25
	l := mustTouch(t, c, x, y, set, 0)
	if l[1].Bias != 1 || l[3].Bias != 12 || l[0].Of != 1 || l[2].Of != 3 {
		t.Errorf("deep points: %v", l)
	}
}

func TestP20_5Bias(t *testing.T) {
	for i, c := range []struct {
		kindX, kindY              uint8
		speedX, speedY            float64
		bounce, depth, slop, hold float64 // hold is the Threshold
		want                      float64
	}{
		{api.Fixed, api.Free, 0, -2, 0.5, 0, 0, 1, 1},
		{api.Fixed, api.Free, 0, -1, 0.5, 0, 0, 1, 0}, // not below it
		{api.Fixed, api.Free, 0, math.Nextafter(-1, -2), 1, 0, 0, 1, math.Nextafter(1, 2)},
		{api.Fixed, api.Free, 0, 2, 0.5, 0, 0, 1, 0}, {api.Fixed, api.Free, 0, -tiny, 1, 0, 0, 0, tiny}, {api.Fixed, api.Free, 0, 0, 1, 0, 0, 0, 0},
		{api.Fixed, api.Free, 9, -2, 0.5, 0, 0, 1, 1}, // what is fixed has no speed
		{api.Moved, api.Free, 9, -2, 0.5, 0, 0, 1, 5.5}, {api.Free, api.Free, 9, -2, 0.5, 0, 0, 1, 5.5}, {api.Free, api.Fixed, 9, -2, 0.5, 0, 0, 1, 4.5},
		{api.Free, api.Free, -9, -9, 1, 0, 0, 0, 0},
		{api.Fixed, api.Free, 0, -2, 0, 0, 0, 1, 0}, {api.Fixed, api.Free, 0, -2, minus, 0, 0, 1, 0},
		{api.Fixed, api.Free, 0, 0, 1, 0.25, 0.25, 1, 0}, {api.Fixed, api.Free, 0, 0, 1, 1.25, 0.25, 1, 0.5}, {api.Fixed, api.Free, 0, 0, 1, 0.25, 1.25, 1, 0},
		{api.Fixed, api.Free, 0, -2, 0.5, 1.25, 0.25, 1, 1}, {api.Fixed, api.Free, 0, -2, 0.5, 4.25, 0.25, 1, 2},
		{api.Fixed, api.Free, 0, -most, 1, 0, 0, 1, most}, {api.Moved, api.Free, most, -most, 1, 0, 0, 1, inf},
		{api.Fixed, api.Free, 0, 0, 1, 0x1p42, 0, 1, 0x1p41},
	} {
		x, y := thing(c.kindX, 0, 0), thing(c.kindY, 0, 1.5)
		x.Speed, y.Speed = v(0, c.speedX), v(0, c.speedY)
		x.Parts[0].Bounce, y.Parts[0].Bounce = c.bounce, 0
		if math.Signbit(c.bounce) {
			y.Parts[0].Bounce = minus
		}
		touch, set := standing(), quarter()
		touch.Points[0].Depth, set.Slop, set.Threshold = c.depth, c.slop, c.hold
		l := mustTouch(t, touch, x, y, set, 0)
		if len(l) != 2 || !same(l[1].Bias, c.want) || !same(l[0].Bias, 0) {
			t.Errorf("row %d: %v", i, l)
		}
	}
	// Of speeds that are no number together nothing bounces.
	x, y := thing(api.Moved, 0, 0), thing(api.Moved, 0, 1.5)
	x.Speed, x.Spin, y.Speed, y.Spin = v(0, most), most, v(0, most), most
	touch := standing()
	touch.Normal, touch.Points[0].At = v(0.6, 0.8), v(9, 0)
	if l := mustTouch(t, touch, x, y, quarter(), 0); !math.IsNaN(speedOf(l[1], still(x), still(y))) || l[1].Bias != 0.125 {
		t.Errorf("a speed that is no number: %v %v", speedOf(l[1], still(x), still(y)), l[1])
	}
}

// still is of a body that may be kept.
func still(b api.Body) api.Still {
	s, _ := body.Still(b)
	return s
}

func TestP20_5Errors(t *testing.T) {
	well, other := thing(api.Fixed, 0, 0), thing(api.Free, 0, 1.5)
	heavy, odd, wild := thing(api.Free, 0, 0), thing(api.Free, 0, 0), thing(api.Free, 0, 0)
	heavy.Parts[0].Density = 0  // ErrMass
	odd.Parts[0].Shape.Kind = 9 // ErrKind
	wild.Speed.X = none
	wildAndOdd := thing(api.Free, 0, 0)
	wildAndOdd.Spin, wildAndOdd.Parts[0].Shape.Kind = inf, 9
	good, bad, partA, partB := standing(), standing(), standing(), standing()
	bad.Points = nil
	partA.Pair.PartA, partB.Pair.PartB = 1, 1
	for i, c := range []struct {
		t     api.Touch
		x, y  api.Body
		s     api.Settings
		first int
		want  api.Errno
	}{
		{bad, wild, odd, api.Settings{}, -1, api.ErrArg},
		{good, wild, odd, api.Settings{}, -1, api.ErrBody},
		{good, odd, wild, api.Settings{}, -1, api.ErrBody},
		{good, well, wild, quarter(), 0, api.ErrBody},
		{good, wildAndOdd, heavy, quarter(), 0, api.ErrBody},
		{good, heavy, wildAndOdd, quarter(), 0, api.ErrBody},
		{partA, odd, heavy, api.Settings{}, -1, api.ErrKind},
		{partA, heavy, odd, api.Settings{}, -1, api.ErrMass},
		{partB, well, odd, api.Settings{}, -1, api.ErrKind},
		{partA, well, other, api.Settings{}, -1, api.ErrRow},
		{partB, well, other, api.Settings{}, -1, api.ErrRow},
		{partA, well, other, quarter(), 0, api.ErrRow},
		{partB, well, other, quarter(), 0, api.ErrRow},
		{good, well, other, api.Settings{}, -1, api.ErrReal},
		{good, well, other, quarter(), -1, api.ErrArg},
		{good, well, other, quarter(), leastInt, api.ErrArg},
		{good, well, other, quarter(), maxFirst + 1, api.ErrArg},
		{good, well, other, quarter(), mostInt, api.ErrArg},
		{good, well, other, quarter(), maxFirst, api.OK},
		{good, well, other, quarter(), 0, api.OK},
		{good, well, well, quarter(), 0, api.OK},
	} {
		l, e := rows.Touch(c.t, c.x, c.y, c.s, c.first)
		if e != c.want || (e == api.OK) != (len(l) == 2) {
			t.Errorf("row %d: %v %v", i, l, e)
		}
		// A Sensor is refused by all of that, too.
		c.t.Sensor = true
		if l, e := rows.Touch(c.t, c.x, c.y, c.s, c.first); e != c.want || len(l) != 0 {
			t.Errorf("row %d of a Sensor: %v %v", i, l, e)
		}
	}
	for i := range motion {
		for _, f := range []float64{none, inf, -inf} {
			b := thing(api.Free, 0, 0)
			setMotion(&b, i, f)
			want := api.ErrBody
			if i >= motion-3 {
				want = api.OK
			}
			_, e := rows.Touch(good, b, other, quarter(), 0)
			isErr(t, e, want, "Touch", b)
			_, e = rows.Touch(good, other, b, quarter(), 0)
			isErr(t, e, want, "Touch", b)
		}
	}
}

func TestP20_5Parts(t *testing.T) {
	x, y := thing(api.Fixed, 0, 0), thing(api.Free, 0, 1.5)
	for len(x.Parts) < api.MaxParts {
		x.Parts = append(x.Parts, disc())
	}
	y.Parts = append(y.Parts, disc(), disc())
	for a := range api.MaxParts + 1 {
		for b := range api.MaxParts + 1 {
			c := standing()
			c.Pair.PartA, c.Pair.PartB = a, b
			want := api.OK
			if a == api.MaxParts || b == api.MaxParts {
				want = api.ErrArg
			} else if b > 2 {
				want = api.ErrRow
			}
			_, e := rows.Touch(c, x, y, quarter(), 0)
			isErr(t, e, want, "Touch", a, b)
		}
	}
}

func TestP20_5Settings(t *testing.T) {
	x, y := thing(api.Fixed, 0, 0), thing(api.Free, 0, 1.5)
	zero := []float64{0, minus, tiny}
	for i, c := range []struct {
		set   func(s *api.Settings) *float64
		taken []float64
		not   []float64
	}{
		{func(s *api.Settings) *float64 { return &s.Step }, []float64{api.MinReal, api.MaxReal}, []float64{math.Nextafter(api.MinReal, 0), 0, -1, past}},
		{func(s *api.Settings) *float64 { return &s.Share }, append(zero, 1), []float64{math.Nextafter(1, 2), -tiny}},
		{func(s *api.Settings) *float64 { return &s.Slop }, append(zero, api.MaxReal), []float64{past, -tiny}},
		{func(s *api.Settings) *float64 { return &s.Threshold }, append(zero, api.MaxReal), []float64{past, -tiny}},
	} {
		try := func(f float64, want api.Errno) {
			t.Helper()
			s := quarter()
			// No other setting is asked.
			s.Gravity, s.Rounds, s.CalmSpeed, s.CalmSpin, s.CalmSteps = v(none, inf), -7, none, -1, -1
			*c.set(&s) = f
			l, e := rows.Touch(standing(), x, y, s, 0)
			if e != want || (e == api.OK) != (len(l) == 2) {
				t.Errorf("setting %d of %v: %v %v", i, f, l, e)
			}
		}
		for _, f := range c.taken {
			try(f, api.OK)
		}
		for _, f := range append(c.not, none, inf, -inf, most, -most) {
			try(f, api.ErrReal)
		}
	}
}

// badTouches are such as may not be.
func badTouches() []api.Touch {
	var l []api.Touch
	for _, change := range []func(t *api.Touch){
		func(t *api.Touch) { t.Points = nil }, func(t *api.Touch) { t.Points = make([]api.Point, 9) }, func(t *api.Touch) { t.Points = append(t.Points, t.Points[0]) },
		func(t *api.Touch) { t.Pair.A = -1 }, func(t *api.Touch) { t.Pair.B = t.Pair.A }, func(t *api.Touch) { t.Pair.PartA = -1 }, func(t *api.Touch) { t.Pair.PartB = 8 },
		func(t *api.Touch) { t.Normal = v(1, 1) }, func(t *api.Touch) { t.Normal = v(none, 0) },
		func(t *api.Touch) { t.Points[0].At.X = inf }, func(t *api.Touch) { t.Points[0].Depth = -1 }, func(t *api.Touch) { t.Points[0].Push = past }, func(t *api.Touch) { t.Points[0].Drag = none },
	} {
		t := standing()
		change(&t)
		l = append(l, t)
	}
	return l
}

func TestBadTouches(t *testing.T) {
	x, y := thing(api.Fixed, 0, 0), thing(api.Free, 0, 1.5)
	for _, c := range badTouches() {
		for _, sensor := range []bool{false, true} {
			c.Sensor = sensor
			l, e := rows.Touch(c, x, y, quarter(), 0)
			if e != api.ErrArg || len(l) != 0 {
				t.Errorf("Touch(%v): %v %v", c, l, e)
			}
			for n := range 4 {
				k, e := rows.Keep(c, make([]api.Row, n))
				if e != api.ErrArg || !sameTouch(k, api.Touch{}) {
					t.Errorf("Keep(%v, %v rows): %v %v", c, n, k, e)
				}
			}
		}
	}
}

func TestP20_6Keep(t *testing.T) {
	s, count := source(4), map[string]int{}
	pushes := []float64{0, minus, 1, -2, tiny, api.MaxReal, -api.MaxReal, past, -past, none, inf, -inf, most}
	for range 6000 {
		c := s.touch(8, 8)
		c.Sensor = s.below(4) == 0
		l := make([]api.Row, s.below(2*len(c.Points)+3))
		if s.coin() {
			l = make([]api.Row, 2*len(c.Points))
		} else if c.Sensor {
			l = nil
		}
		for i := range l {
			// Nothing of a row is asked but its Push.
			l[i] = api.Row{A: -1, B: -1, Bias: none, Low: 3, High: 2, TurnA: inf, Of: -9, Ratio: -1, Push: s.pick(pushes...)}
		}
		want, e, what := touchCopy(c), api.OK, "kept"
		switch {
		case c.Sensor && len(l) == 0:
			what = "sensor"
		case c.Sensor || len(l) != 2*len(c.Points):
			want, e, what = api.Touch{}, api.ErrRow, "refused"
		default:
			for i := range want.Points {
				for k, to := range []*float64{&want.Points[i].Drag, &want.Points[i].Push} {
					if *to = l[2*i+k].Push; !(math.Abs(*to) <= api.MaxReal) {
						*to = 0
						count["too great"]++
					}
				}
			}
		}
		count[what]++
		oldTouch, oldRows := touchCopy(c), slices.Clone(l)
		got, f := rows.Keep(c, l)
		if f != e || !sameTouch(got, want) || !sameTouch(c, oldTouch) || !sameRows(l, oldRows) {
			t.Fatalf("Keep(%v, %v) is %v %v, not %v %v", c, l, got, f, want, e)
		}
	}
	enough(t, count, 200, "sensor", "refused", "kept", "too great")
}

func TestP20_6Known(t *testing.T) {
	c := standing()
	c.Points = append(c.Points, api.Point{ID: 1, Push: 5, Drag: 6})
	l := []api.Row{{Push: 1}, {Push: 2}, {Push: 3}, {Push: 4}}
	got, e := rows.Keep(c, l)
	want := touchCopy(c)
	want.Points[0].Drag, want.Points[0].Push, want.Points[1].Drag, want.Points[1].Push = 1, 2, 3, 4
	if e != api.OK || !sameTouch(got, want) {
		t.Errorf("Keep: %v %v", got, e)
	}
	for n := range 7 {
		_, e := rows.Keep(c, make([]api.Row, n))
		if (e == api.OK) != (n == 4) || e != api.OK && e != api.ErrRow {
			t.Errorf("Keep of %d rows: %v", n, e)
		}
	}
	// A Sensor has no rows: what it has of impulses stays.
	c.Sensor = true
	if got, e := rows.Keep(c, nil); e != api.OK || !sameTouch(got, c) {
		t.Errorf("Keep of a Sensor: %v %v", got, e)
	}
	for n := 1; n < 7; n++ {
		got, e := rows.Keep(c, make([]api.Row, n))
		if e != api.ErrRow || !sameTouch(got, api.Touch{}) {
			t.Errorf("Keep of a Sensor and %d rows: %v %v", n, got, e)
		}
	}
}

// TestP20_6Unsolved: rows that were not solved bring a touch its impulses back.
func TestP20_6Unsolved(t *testing.T) {
	s := source(5)
	for range 2000 {
		x, y := s.body(), s.body()
		c := s.touch(len(x.Parts), len(y.Parts))
		c.Sensor = s.below(5) == 0
		got, e := rows.Keep(c, mustTouch(t, c, x, y, s.settings(), 0))
		if e != api.OK || !sameTouch(got, c) {
			t.Fatalf("%v became %v %v", c, got, e)
		}
	}
}

func TestP20_7Memory(t *testing.T) {
	s := source(6)
	for range 500 {
		x, y := s.body(), s.body()
		c, set := s.touch(len(x.Parts), len(y.Parts)), s.settings()
		spare := append(slices.Clone(c.Points), api.Point{ID: 77}, api.Point{ID: 78})
		c.Points = spare[:len(c.Points)]
		oldX, oldY, oldSpare := body.Twin(x), body.Twin(y), slices.Clone(spare)
		l := mustTouch(t, c, x, y, set, 3)
		first := slices.Clone(l)
		again := mustTouch(t, c, x, y, set, 3)
		for i := range again[:cap(again)] {
			again[:cap(again)][i] = api.Row{Push: 99, Of: 9}
		}
		if !sameRows(l, first) || !body.Same(x, oldX) || !body.Same(y, oldY) || !slices.EqualFunc(spare, oldSpare, samePoint) {
			t.Fatalf("changed: %v %v %v %v", l, x, y, spare)
		}
		for _, sensor := range []bool{false, true} {
			given := append(slices.Clone(l), api.Row{Push: 5})
			old := slices.Clone(given)
			if c.Sensor = sensor; sensor {
				given, old = nil, []api.Row{{}}
			}
			k, e := rows.Keep(c, given[:len(old)-1])
			isErr(t, e, api.OK, "Keep", c)
			for i := range k.Points[:cap(k.Points)] {
				k.Points[:cap(k.Points)][i] = api.Point{ID: 5, Push: 66, Drag: 67}
			}
			if !slices.EqualFunc(spare, oldSpare, samePoint) || !sensor && !sameRows(given, old) {
				t.Fatalf("Keep changed %v %v", spare, given)
			}
		}
	}
}
