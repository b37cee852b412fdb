package turn_test

import (
	"math"
	"testing"

	"tumble/api"
	"tumble/turn"
)

var (
	minus = math.Copysign(0, -1)
	none  = math.NaN()
	inf   = math.Inf(1)
)

const (
	most  = math.MaxFloat64
	least = math.SmallestNonzeroFloat64
)

func v(x, y float64) api.Vec { return api.Vec{X: x, Y: y} }

// c keeps the noughts' signs, which sums of complex constants lose.
func c(re, im float64) complex128 { return complex(re, im) }

// The oracle rounds each operation by itself: a call that is not inlined can't be worked out as one with the next.
//
//go:noinline
func add(a, b float64) float64 { return a + b }

//go:noinline
func sub(a, b float64) float64 { return a - b }

//go:noinline
func mul(a, b float64) float64 { return a * b }

//go:noinline
func div(a, b float64) float64 { return a / b }

// flipped flips the sign's bit itself, apart from what the language's minus does.
func flipped(a float64) float64 { return math.Float64frombits(math.Float64bits(a) ^ 1<<63) }

func squareOf(q complex128) float64 {
	return add(mul(real(q), real(q)), mul(imag(q), imag(q)))
}

func finite(a float64) bool { return !math.IsNaN(a) && !math.IsInf(a, 0) }

// mayBe is chapter 3's word 'may be', with the bound open to be wider.
func mayBe(q complex128, drift float64) bool {
	s := squareOf(q)
	return finite(real(q)) && finite(imag(q)) && s >= 1-drift && s <= 1+drift
}

// The oracle of 'the same' is told by bits, apart from what the package does.
func same(a, b float64) bool {
	if math.IsNaN(a) || math.IsNaN(b) {
		return math.IsNaN(a) && math.IsNaN(b)
	}
	return math.Float64bits(a) == math.Float64bits(b)
}

func isFloat(t *testing.T, got, want float64, call string, args ...any) {
	t.Helper()
	if !same(got, want) {
		t.Errorf("%s%v is %v, not %v", call, args, got, want)
	}
}

func isNumber(t *testing.T, got, want complex128, call string, args ...any) {
	t.Helper()
	if !same(real(got), real(want)) || !same(imag(got), imag(want)) {
		t.Errorf("%s%v is %v, not %v", call, args, got, want)
	}
}

func isVec(t *testing.T, got, want api.Vec, call string, args ...any) {
	t.Helper()
	if !same(got.X, want.X) || !same(got.Y, want.Y) {
		t.Errorf("%s%v is %v, not %v", call, args, got, want)
	}
}

func isInt(t *testing.T, got, want int, call string, args ...any) {
	t.Helper()
	if got != want {
		t.Errorf("%s%v is %d, not %d", call, args, got, want)
	}
}

func isErrno(t *testing.T, got, want api.Errno, call string, args ...any) {
	t.Helper()
	isInt(t, int(got), int(want), call, args...)
}

// Floats at which sums, products and signs have their edges.
func edges() []float64 {
	return []float64{none, -inf, -most, -0x1p600, -3.7, -1, -0x1p-600, -least, minus, 0, least, 0x1p-540, 0.1, 1, 0x1p27 + 1, 0x1.fffffffffffffp700, most, inf}
}

func edgeNumbers() []complex128 {
	var l []complex128
	for _, re := range edges() {
		for _, im := range edges() {
			l = append(l, c(re, im))
		}
	}
	return l
}

// plainFloats are floats with all their bits in use, from a rule of whole numbers: the same ones in each run.
func plainFloats(n int) []float64 {
	seed := uint64(3)
	l := make([]float64, n)
	for i := range l {
		seed = seed*6364136223846793005 + 1442695040888963407
		whole := int64(seed>>11) - 1<<52
		l[i] = math.Ldexp(float64(whole), int(seed>>5&63)-80)
	}
	return l
}

func plainNumbers(n int) []complex128 {
	f := plainFloats(2 * n)
	l := make([]complex128, n)
	for i := range l {
		l[i] = c(f[2*i], f[2*i+1])
	}
	return l
}

func overNumbers(f func(q complex128)) {
	for _, q := range edgeNumbers() {
		f(q)
	}
	for _, q := range plainNumbers(4000) {
		f(q)
	}
}

// overPairs tries each of the edges with each, and plain numbers two by two.
func overPairs(f func(a, b complex128)) {
	l := edgeNumbers()
	for _, a := range l {
		for _, b := range l {
			f(a, b)
		}
	}
	p := plainNumbers(4000)
	for i, a := range p[1:] {
		f(a, p[i])
	}
}

// turns are such as may be, made apart from the package: all round, and out to both ends of what is allowed.
func turns() []complex128 {
	l := []complex128{1, -1, 1i, -1i, c(1, minus), c(minus, -1), c(0.6, 0.8), c(-0.8, 0.6), c(1, 0x1p-20), c(-1, 0x1p-20), c(0x1p-20, -1), c(1-0x1p-41, 0), c(minus, 1-0x1p-41)}
	for i := range 720 {
		sin, cos := math.Sincos(float64(i) * math.Pi / 360)
		for _, long := range []float64{1, 1 + 0x1.ffcp-42, 1 - 0x1.ffcp-42} {
			l = append(l, c(cos*long, sin*long))
		}
	}
	return l
}

func TestTurnsOfTheTestsMayBe(t *testing.T) {
	for _, q := range turns() {
		if !mayBe(q, 0x1p-40) {
			t.Errorf("%v is no turn", q)
		}
	}
}

func TestP3_1OneQuarter(t *testing.T) {
	isNumber(t, turn.One(), c(1, 0), "One")
	isNumber(t, turn.Quarter(), c(0, 1), "Quarter")
}

func TestP3_1Check(t *testing.T) {
	overNumbers(func(q complex128) {
		want := api.ErrTurn
		if mayBe(q, 0x1p-40) {
			want = api.OK
		}
		isErrno(t, turn.Check(q), want, "Check", q)
	})
	for _, q := range turns() {
		isErrno(t, turn.Check(q), api.OK, "Check", q)
	}
}

func TestP3_1CheckBounds(t *testing.T) {
	low, high := 1-0x1p-41, 0x1p-20
	for _, q := range []complex128{c(low, 0), c(0, -low), c(1, high), c(-high, 1)} {
		isErrno(t, turn.Check(q), api.OK, "Check at the bound", q)
	}
	under := math.Nextafter(low, 0)
	for _, q := range []complex128{c(under, 0), c(0, -under), c(1+0x1p-52, high), c(high, -1-0x1p-52), 1 + 0x1p-40, 0} {
		isErrno(t, turn.Check(q), api.ErrTurn, "Check beyond the bound", q)
	}
	for _, q := range []complex128{c(none, 0), c(1, none), c(none, none), c(inf, 0), c(0, -inf), c(inf, -inf), c(none, inf), c(most, most)} {
		isErrno(t, turn.Check(q), api.ErrTurn, "Check of what is not finite", q)
	}
}

func wantUnit(q complex128) (complex128, bool) {
	l := math.Sqrt(squareOf(q))
	u := c(div(real(q), l), div(imag(q), l))
	if !mayBe(u, 0x1p-40) {
		return 0, false
	}
	return u, true
}

func isUnit(t *testing.T, q, want complex128, wantIs bool) {
	t.Helper()
	u, is := turn.Unit(q)
	isNumber(t, u, want, "Unit", q)
	o, isOf := turn.Of(v(real(q), imag(q)))
	isNumber(t, o, want, "Of", q)
	if is != wantIs || isOf != wantIs {
		t.Errorf("Unit, Of of %v tell %v, %v, not %v", q, is, isOf, wantIs)
	}
}

func TestP3_2UnitOf(t *testing.T) {
	overNumbers(func(q complex128) {
		want, is := wantUnit(q)
		isUnit(t, q, want, is)
	})
	for _, q := range turns() {
		want, is := wantUnit(q)
		isUnit(t, q, want, is)
	}
}

func TestP3_2UnitOfEdges(t *testing.T) {
	isUnit(t, c(minus, 5), c(minus, 1), true)
	isUnit(t, c(-5, minus), c(-1, minus), true)
	isUnit(t, c(0x1p-537, 0), 1, true)
	isUnit(t, c(0, 0x1p-538), 0, false)
	isUnit(t, c(0x1p511, 0), 1, true)
	isUnit(t, c(0, -0x1p512), 0, false)
	// A square below the normal floats has lost bits: 2.25 * 2^-1074 becomes 2 * 2^-1074, and what comes out is too long.
	isUnit(t, c(1.5*0x1p-537, 0), 0, false)
	for _, q := range []complex128{c(minus, minus), c(least, least), c(most, 1), c(none, 1), c(1, none), c(inf, 1), c(1, -inf), c(inf, inf), c(none, inf)} {
		isUnit(t, q, 0, false)
	}
}

func wantBy(t float64) complex128 {
	s := mul(t, t)
	if math.IsInf(s, 0) {
		return c(-1, 0)
	}
	d := add(1, s)
	return c(div(sub(1, s), d), div(add(t, t), d))
}

func TestP3_3By(t *testing.T) {
	for _, x := range append(edges(), plainFloats(8000)...) {
		isNumber(t, turn.By(x), wantBy(x), "By", x)
		isNumber(t, turn.By(-x), wantBy(-x), "By", -x)
	}
	isNumber(t, turn.By(minus), c(1, minus), "By", minus)
	isNumber(t, turn.By(-inf), c(-1, 0), "By", -inf)
	isNumber(t, turn.By(inf), c(-1, 0), "By", inf)
	isNumber(t, turn.By(-0x1p512), c(-1, 0), "By", -0x1p512)
	isNumber(t, turn.By(-0x1p511), c(-1, -0x1p-510), "By", -0x1p511)
	last := math.Nextafter(0x1p512, 0)
	isNumber(t, turn.By(last), wantBy(last), "By of the last whose square is finite", last)
	isNumber(t, turn.By(0x1p-600), c(1, 0x1p-599), "By", 0x1p-600)
}

func TestP3_4Then(t *testing.T) {
	overPairs(func(a, b complex128) {
		re := sub(mul(real(a), real(b)), mul(imag(a), imag(b)))
		im := add(mul(real(a), imag(b)), mul(imag(a), real(b)))
		isNumber(t, turn.Then(a, b), c(re, im), "Then", a, b)
	})
	isNumber(t, turn.Then(c(inf, 0), c(1, 0)), c(inf, none), "Then by parts: infinite times nought is no number")
	isNumber(t, turn.Then(c(inf, inf), c(1, 1)), c(none, inf), "Then by parts: infinities are not mended")
	isNumber(t, turn.Then(c(1, minus), c(minus, minus)), c(minus, 0), "Then of noughts")
	big := 0x1p27 + 1
	isNumber(t, turn.Then(c(big, big), c(big, big)), c(0, 0x1p55+0x1p29), "Then: each product is rounded ahead")
}

func TestP3_4Back(t *testing.T) {
	overNumbers(func(q complex128) {
		isNumber(t, turn.Back(q), c(real(q), flipped(imag(q))), "Back", q)
	})
	isNumber(t, turn.Back(c(minus, minus)), c(minus, 0), "Back of noughts")
	isNumber(t, turn.Back(c(inf, inf)), c(inf, -inf), "Back of infinities")
}

func TestP3_5Apply(t *testing.T) {
	overPairs(func(q, w complex128) {
		re, im, x, y := real(q), imag(q), real(w), imag(w)
		want := v(sub(mul(re, x), mul(im, y)), add(mul(im, x), mul(re, y)))
		isVec(t, turn.Apply(q, v(x, y)), want, "Apply", q, x, y)
	})
	isVec(t, turn.Apply(c(1, 0), v(minus, minus)), v(0, minus), "Apply of noughts")
	isVec(t, turn.Apply(c(1, minus), v(minus, minus)), v(minus, 0), "Apply of noughts")
	isVec(t, turn.Apply(c(1, 0), v(inf, 1)), v(inf, none), "Apply to what is infinite")
}

func TestP3_5Undo(t *testing.T) {
	overPairs(func(q, w complex128) {
		re, im, x, y := real(q), imag(q), real(w), imag(w)
		want := v(add(mul(re, x), mul(im, y)), sub(mul(re, y), mul(im, x)))
		isVec(t, turn.Undo(q, v(x, y)), want, "Undo", q, x, y)
	})
	isVec(t, turn.Undo(c(1, 0), v(minus, minus)), v(minus, 0), "Undo of noughts")
	isVec(t, turn.Undo(c(1, 0), v(0, minus)), v(0, minus), "Undo of noughts")
	isVec(t, turn.Undo(c(0, 1), v(1, inf)), v(inf, none), "Undo of what is infinite")
}

// row is the row of turns, written down: those of one line are alike.
func row() [][]complex128 {
	return [][]complex128{
		{c(inf, 0), c(inf, minus)}, {c(inf, 1)}, {c(inf, inf)},
		{c(2, 0)}, {c(1, 0), c(1, minus)}, {c(1, 0x1p-20)}, {c(0.6, 0.8)},
		{c(0, 0), c(0, minus), c(minus, 0), c(minus, minus)}, {c(0, least), c(minus, least)}, {c(0, 1), c(minus, 1)}, {c(0, 2)}, {c(0, inf)},
		{c(-0.6, 0.8)}, {c(-1, least)}, {c(-1, 1)}, {c(-inf, 1)}, {c(-inf, inf)},
		{c(-inf, -inf)}, {c(-inf, -1)}, {c(-inf, 0), c(-inf, minus)},
		{c(-1, -1)}, {c(-1, -0x1p-20)}, {c(-1, 0), c(-1, minus)}, {c(-0.6, -0.8)}, {c(-least, 0)},
		{c(0, -inf)}, {c(0, -1), c(minus, -1)}, {c(minus, -least), c(0, -least)},
		{c(0.6, -0.8)}, {c(1, -1)}, {c(1, -least)}, {c(inf, -inf)}, {c(inf, -1)},
		{c(none, none), c(none, 0), c(0, none), c(1, none), c(-1, none), c(none, 5), c(none, -5), c(inf, none), c(none, -inf)},
	}
}

func TestP3_6Order(t *testing.T) {
	for i, likeA := range row() {
		for k, likeB := range row() {
			want := min(max(i-k, -1), 1)
			for _, a := range likeA {
				for _, b := range likeB {
					isInt(t, turn.Order(a, b), want, "Order", a, b)
				}
			}
		}
	}
}

// wantOrder goes by chapter 3's words on the row, one by one.
func wantOrder(a, b complex128) int {
	noneA, noneB := a != a, b != b
	if noneA || noneB {
		return place(noneA, noneB)
	}
	isFirst := func(q complex128) bool { return imag(q) > 0 || imag(q) == 0 && !(real(q) < 0) }
	if isFirst(a) != isFirst(b) {
		return place(isFirst(b), isFirst(a))
	}
	if real(a) != real(b) {
		return place((real(b) > real(a)) == isFirst(a), (real(a) > real(b)) == isFirst(a))
	}
	return place(imag(a) > imag(b), imag(b) > imag(a))
}

func place(behindB, behindA bool) int {
	switch {
	case behindB && !behindA:
		return 1
	case behindA && !behindB:
		return -1
	}
	return 0
}

func TestP3_6OrderOfAll(t *testing.T) {
	overPairs(func(a, b complex128) {
		isInt(t, turn.Order(a, b), wantOrder(a, b), "Order", a, b)
	})
	l := turns()
	for i, a := range l {
		for _, b := range l[i%7:] {
			if got, want := turn.Order(a, b), wantOrder(a, b); got != want {
				t.Fatalf("Order(%v, %v) is %d, not %d", a, b, got, want)
			}
		}
	}
}

// All round, from no turn on to the left, each of the circle's places stands ahead of the next.
func TestP3_6OrderGoesRound(t *testing.T) {
	last := c(1, 0)
	for i := 1; i < 3600; i++ {
		sin, cos := math.Sincos(float64(i) * math.Pi / 1800)
		q := c(cos, sin)
		if i == 1800 {
			q = -1
		}
		isInt(t, turn.Order(last, q), -1, "Order", last, q)
		isInt(t, turn.Order(q, last), 1, "Order", q, last)
		last = q
	}
}

func TestP3_6Same(t *testing.T) {
	overPairs(func(a, b complex128) {
		want := same(real(a), real(b)) && same(imag(a), imag(b))
		if turn.Same(a, b) != want {
			t.Errorf("Same(%v, %v) is not %v", a, b, want)
		}
	})
	overNumbers(func(q complex128) {
		if !turn.Same(q, q) {
			t.Errorf("Same(%v) with itself is false", q)
		}
	})
	other := math.Float64frombits(math.Float64bits(none) ^ 1<<63 ^ 5)
	if !turn.Same(c(none, other), c(other, none)) {
		t.Error("Same: no number is as no number, whatever its bits")
	}
}

func TestP3_6Angle(t *testing.T) {
	overPairs(func(a, b complex128) {
		want := sub(mul(real(a), imag(b)), mul(imag(a), real(b)))
		isFloat(t, turn.Angle(a, b), want, "Angle", a, b)
	})
	isFloat(t, turn.Angle(c(minus, 0), c(1, 1)), minus, "Angle of noughts")
	isFloat(t, turn.Angle(c(0, 0), c(1, 1)), 0, "Angle of noughts")
}

func TestP3_7TurnsStayTurns(t *testing.T) {
	for _, x := range append(edges(), plainFloats(8000)...) {
		if !math.IsNaN(x) {
			isErrno(t, turn.Check(turn.By(x)), api.OK, "Check of By", x)
			isErrno(t, turn.Check(turn.By(1/x)), api.OK, "Check of By", 1/x)
		}
	}
	for _, q := range turns() {
		isErrno(t, turn.Check(turn.Back(q)), api.OK, "Check of Back", q)
		u, is := turn.Unit(q)
		isErrno(t, turn.Check(u), api.OK, "Check of Unit", q)
		if !is {
			t.Errorf("Unit(%v) is not", q)
		}
	}
}

func TestP3_7ThenStaysNear(t *testing.T) {
	l := turns()
	for i, a := range l {
		for k := i % 11; k < len(l); k += 11 {
			if q := turn.Then(a, l[k]); !mayBe(q, 0x1p-38) {
				t.Fatalf("Then(%v, %v) is %v, with the square %v", a, l[k], q, squareOf(q))
			}
		}
	}
}

// As numbers: == takes both noughts as one.
func TestP3_7ThenQuarter(t *testing.T) {
	all := turns()
	overNumbers(func(q complex128) {
		if finite(real(q)) && finite(imag(q)) {
			all = append(all, q)
		}
	})
	for _, q := range all {
		if got := turn.Then(q, turn.Quarter()); got != c(-imag(q), real(q)) {
			t.Errorf("Then(%v, Quarter) is %v", q, got)
		}
	}
}

func TestP3_7UndoOfApply(t *testing.T) {
	parts := []float64{0, minus, 1, -3.7, 0x1p300, -0x1p300, 0x1p-300, -0x1p-300, 0x1.fffffffffffffp299, 0x1.0000000000001p-300}
	parts = append(parts, plainFloats(20)...)
	for _, x := range parts {
		for _, y := range parts {
			near := (math.Abs(x) + math.Abs(y)) * 0x1p-38
			for _, q := range turns() {
				w := turn.Undo(q, turn.Apply(q, v(x, y)))
				if !(math.Abs(w.X-x) <= near && math.Abs(w.Y-y) <= near) {
					t.Fatalf("Undo of Apply of (%v, %v) by %v is %v", x, y, q, w)
				}
			}
		}
	}
}

func TestP3_7AngleOfTwo(t *testing.T) {
	l := turns()
	for i, a := range l {
		if got := turn.Angle(a, a); got != 0 {
			t.Errorf("Angle(%v) with itself is %v", a, got)
		}
		for k := i % 11; k < len(l); k += 11 {
			if turn.Angle(a, l[k]) != -turn.Angle(l[k], a) {
				t.Fatalf("Angle(%v, %v) and the other way round", a, l[k])
			}
		}
	}
}

func TestExamplesCheckUnitBy(t *testing.T) {
	// The chapter's table has ErrTurn of 1 + 2^-20 i, but the square of that is 1 + 2^-40, up to which a turn may be.
	for _, q := range []complex128{1, 1i, 0.6 + 0.8i, c(1, 0x1p-20)} {
		isErrno(t, turn.Check(q), api.OK, "Check", q)
	}
	isErrno(t, turn.Check(1+0.001i), api.ErrTurn, "Check")
	isErrno(t, turn.Check(c(inf, 0)), api.ErrTurn, "Check")
	isUnit(t, 3+4i, 0.6+0.8i, true)
	isUnit(t, 0, 0, false)
	isUnit(t, 0x1p-600, 0, false)
	isUnit(t, 0x1p600, 0, false)
	isUnit(t, c(0, -0x1p-500), c(0, -1), true)
	isUnit(t, c(0, -7), c(0, -1), true)
	isNumber(t, turn.By(0), 1, "By")
	isNumber(t, turn.By(1), 1i, "By")
	isNumber(t, turn.By(-1), c(0, -1), "By")
	isNumber(t, turn.By(0.5), 0.6+0.8i, "By")
	isNumber(t, turn.By(0x1p600), -1, "By")
	isNumber(t, turn.By(none), c(none, none), "By")
}

func TestExamplesOfTurns(t *testing.T) {
	i := turn.Quarter()
	isNumber(t, turn.Then(i, i), c(-1, 0), "Then")
	isNumber(t, turn.Then(0.6+0.8i, 0.6+0.8i), c(-0.28000000000000014, 0.96), "Then")
	isNumber(t, turn.Back(i), c(0, -1), "Back")
	isVec(t, turn.Apply(i, v(1, 2)), v(-2, 1), "Apply")
	isVec(t, turn.Undo(i, v(1, 2)), v(2, -1), "Undo")
	isInt(t, turn.Order(1, i), -1, "Order")
	isInt(t, turn.Order(i, -1), -1, "Order")
	isInt(t, turn.Order(-1, -1i), -1, "Order")
	isInt(t, turn.Order(-1i, 1), 1, "Order")
	isInt(t, turn.Order(c(-1, 0), c(-1, minus)), 0, "Order")
	isFloat(t, turn.Angle(1, i), 1, "Angle")
	isFloat(t, turn.Angle(i, 1), -1, "Angle")
	isFloat(t, turn.Angle(1, -1), 0, "Angle")
}
