package vec_test

import (
	"math"
	"testing"

	"tumble/api"
	"tumble/vec"
)

var (
	minus = math.Copysign(0, -1)
	none  = math.NaN()
	inf   = math.Inf(1)
)

const (
	most  = math.MaxFloat64
	least = math.SmallestNonzeroFloat64
)

func v(x, y float64) api.Vec { return api.Vec{X: x, Y: y} }

// The oracle rounds each operation by itself: a call that is not inlined can't be worked out as one with the next.
//
//go:noinline
func add(a, b float64) float64 { return a + b }

//go:noinline
func sub(a, b float64) float64 { return a - b }

//go:noinline
func mul(a, b float64) float64 { return a * b }

//go:noinline
func div(a, b float64) float64 { return a / b }

// turned flips the sign's bit itself, apart from what the language's minus does.
func turned(a float64) float64 { return math.Float64frombits(math.Float64bits(a) ^ 1<<63) }

// The oracle of 'the same' is told by bits, apart from what the package does.
func same(a, b float64) bool {
	if math.IsNaN(a) || math.IsNaN(b) {
		return math.IsNaN(a) && math.IsNaN(b)
	}
	return math.Float64bits(a) == math.Float64bits(b)
}

func sameVec(a, b api.Vec) bool { return same(a.X, b.X) && same(a.Y, b.Y) }

func isVec(t *testing.T, got, want api.Vec, call string, args ...any) {
	t.Helper()
	if !sameVec(got, want) {
		t.Errorf("%s%v is %v, not %v", call, args, got, want)
	}
}

func isFloat(t *testing.T, got, want float64, call string, args ...any) {
	t.Helper()
	if !same(got, want) {
		t.Errorf("%s%v is %v, not %v", call, args, got, want)
	}
}

// Floats at which sums, products and signs have their edges.
func edges() []float64 {
	return []float64{none, -inf, -most, -0x1p600, -3.7, -1, -0x1p-600, -least, minus, 0, least, 0x1p-540, 0.1, 1, 0x1p27 + 1, 0x1.fffffffffffffp700, most, inf}
}

func edgeWays() []api.Vec {
	var l []api.Vec
	for _, x := range edges() {
		for _, y := range edges() {
			l = append(l, v(x, y))
		}
	}
	return l
}

// plainWays are ways of floats with all their bits in use, from a rule of whole numbers: the same ones in each run.
func plainWays(n int) []api.Vec {
	seed := uint64(2)
	next := func() float64 {
		seed = seed*6364136223846793005 + 1442695040888963407
		whole := int64(seed>>11) - 1<<52
		return math.Ldexp(float64(whole), int(seed>>5&63)-80)
	}
	l := make([]api.Vec, n)
	for i := range l {
		l[i] = v(next(), next())
	}
	return l
}

// overPairs tries each of the edges with each, and plain ways two by two.
func overPairs(f func(a, b api.Vec)) {
	l := edgeWays()
	for _, a := range l {
		for _, b := range l {
			f(a, b)
		}
	}
	p := plainWays(4000)
	for i, a := range p[1:] {
		f(a, p[i])
	}
}

func overWays(f func(a api.Vec)) {
	for _, a := range edgeWays() {
		f(a)
	}
	for _, a := range plainWays(4000) {
		f(a)
	}
}

func finite(a float64) bool { return !math.IsNaN(a) && !math.IsInf(a, 0) }

func finiteVec(a api.Vec) bool { return finite(a.X) && finite(a.Y) }

func TestP2_1AddSubMiddle(t *testing.T) {
	overPairs(func(a, b api.Vec) {
		isVec(t, vec.Add(a, b), v(add(a.X, b.X), add(a.Y, b.Y)), "Add", a, b)
		isVec(t, vec.Sub(a, b), v(sub(a.X, b.X), sub(a.Y, b.Y)), "Sub", a, b)
		isVec(t, vec.Middle(a, b), v(div(add(a.X, b.X), 2), div(add(a.Y, b.Y), 2)), "Middle", a, b)
	})
	isVec(t, vec.Middle(v(most, 1), v(most, 1)), v(inf, 1), "Middle: the sum overflows ahead of the halving")
	isVec(t, vec.Middle(v(least, 0), v(0, minus)), v(0, 0), "Middle: half of the least float is nought")
	isVec(t, vec.Sub(v(1, minus), v(1, 0)), v(0, minus), "Sub of noughts")
	isVec(t, vec.Add(v(minus, minus), v(minus, 0)), v(minus, 0), "Add of noughts")
}

func TestP2_1Scale(t *testing.T) {
	overWays(func(a api.Vec) {
		for _, s := range edges() {
			isVec(t, vec.Scale(a, s), v(mul(a.X, s), mul(a.Y, s)), "Scale", a, s)
		}
	})
	isVec(t, vec.Scale(v(1, -1), minus), v(minus, 0), "Scale by minus nought")
	isVec(t, vec.Scale(v(0, 2), inf), v(none, inf), "Scale by what is infinite")
}

func TestP2_1Neg(t *testing.T) {
	overWays(func(a api.Vec) {
		isVec(t, vec.Neg(a), v(turned(a.X), turned(a.Y)), "Neg", a)
	})
	isVec(t, vec.Neg(v(0, minus)), v(minus, 0), "Neg of noughts")
	isVec(t, vec.Neg(v(inf, -inf)), v(-inf, inf), "Neg of infinities")
}

func TestP2_1More(t *testing.T) {
	for _, s := range edges() {
		for i, a := range edgeWays() {
			b := v(edges()[i%len(edges())], edges()[i*7%len(edges())])
			isVec(t, vec.More(a, s, b), v(add(a.X, mul(s, b.X)), add(a.Y, mul(s, b.Y))), "More", a, s, b)
			isVec(t, vec.More(b, s, a), v(add(b.X, mul(s, a.X)), add(b.Y, mul(s, a.Y))), "More", b, s, a)
		}
	}
	p := plainWays(4002)
	for i, a := range p[2:] {
		b, s := p[i], p[i+1].X
		isVec(t, vec.More(a, s, b), v(add(a.X, mul(s, b.X)), add(a.Y, mul(s, b.Y))), "More", a, s, b)
	}
	big := 0x1p27 + 1
	isVec(t, vec.More(v(-0x1p54, -0x1p54), big, v(big, -big)), v(0x1p28, -0x1p55-0x1p28), "More: the product is rounded ahead")
}

// A product that a call answers is rounded, even where the compiler puts the call's body in place and a sum follows.
func TestP2_1Rounded(t *testing.T) {
	p := plainWays(4002)
	for i, a := range p[2:] {
		b, s := p[i], p[i+1].X
		isVec(t, vec.Add(a, vec.Scale(b, s)), v(add(a.X, mul(s, b.X)), add(a.Y, mul(s, b.Y))), "Add of Scale", a, s, b)
		isVec(t, vec.Sub(a, vec.Scale(b, s)), v(sub(a.X, mul(s, b.X)), sub(a.Y, mul(s, b.Y))), "Sub of Scale", a, s, b)
		isVec(t, vec.Add(a, vec.Spin(s, b)), v(sub(a.X, mul(s, b.Y)), add(a.Y, mul(s, b.X))), "Add of Spin", a, s, b)
	}
}

func TestP2_2DotCross(t *testing.T) {
	overPairs(func(a, b api.Vec) {
		isFloat(t, vec.Dot(a, b), add(mul(a.X, b.X), mul(a.Y, b.Y)), "Dot", a, b)
		isFloat(t, vec.Cross(a, b), sub(mul(a.X, b.Y), mul(a.Y, b.X)), "Cross", a, b)
	})
	big := 0x1p27 + 1
	isFloat(t, vec.Dot(v(big, big), v(big, -big)), 0, "Dot: both products are rounded")
	isFloat(t, vec.Dot(v(1, big), v(-0x1p54-0x1p28, big)), 0, "Dot: the second product is rounded")
	isFloat(t, vec.Cross(v(big, 1), v(0x1p54+0x1p28, big)), 0, "Cross: the first product is rounded")
	isFloat(t, vec.Cross(v(1, big), v(big, 0x1p54+0x1p28)), 0, "Cross: the second product is rounded")
	isFloat(t, vec.Dot(v(0, minus), v(minus, 0)), minus, "Dot of noughts")
	isFloat(t, vec.Cross(v(1, 1), v(1, 1)), 0, "Cross with itself")
	isFloat(t, vec.Dot(v(inf, 1), v(0, 1)), none, "Dot of what is infinite and nought")
}

func TestP2_2SquareLength(t *testing.T) {
	overWays(func(a api.Vec) {
		square := add(mul(a.X, a.X), mul(a.Y, a.Y))
		isFloat(t, vec.Square(a), square, "Square", a)
		isFloat(t, vec.Length(a), math.Sqrt(square), "Length", a)
	})
	// What a hypotenuse would spare must overflow, or become nought, here.
	isFloat(t, vec.Length(v(0x1p600, 0)), inf, "Length of a way whose square overflows")
	isFloat(t, vec.Length(v(0x1p-600, 0)), 0, "Length of a way whose square is nought")
	isFloat(t, vec.Length(v(inf, none)), none, "Length of no number")
	isFloat(t, vec.Length(v(minus, minus)), 0, "Length of minus noughts")
}

func TestP2_3Turned(t *testing.T) {
	overWays(func(a api.Vec) {
		isVec(t, vec.Left(a), v(turned(a.Y), a.X), "Left", a)
		isVec(t, vec.Right(a), v(a.Y, turned(a.X)), "Right", a)
		for _, w := range edges() {
			isVec(t, vec.Spin(w, a), v(turned(mul(w, a.Y)), mul(w, a.X)), "Spin", w, a)
		}
	})
	isVec(t, vec.Left(v(0, 0)), v(minus, 0), "Left of nought")
	isVec(t, vec.Right(v(0, 0)), v(0, minus), "Right of nought")
	isVec(t, vec.Spin(0, v(1, 1)), v(minus, 0), "Spin of nought")
}

func TestP2_4Unit(t *testing.T) {
	for _, a := range append(edgeWays(), plainWays(4000)...) {
		n := math.Sqrt(add(mul(a.X, a.X), mul(a.Y, a.Y)))
		want, is := api.Vec{}, n > 0 && finite(n)
		if is {
			want = v(div(a.X, n), div(a.Y, n))
		}
		u, got := vec.Unit(a)
		if got != is {
			t.Errorf("Unit(%v) tells %v", a, got)
		}
		isVec(t, u, want, "Unit", a)
	}
}

func TestP2_4NoUnit(t *testing.T) {
	for _, a := range []api.Vec{
		v(0, 0), v(minus, minus), v(least, least), v(0x1p-538, 0),
		v(0x1p512, 0), v(0x1p511, 0x1.bb67ae8584cabp511), v(inf, 0), v(3, -inf), v(inf, inf), v(none, 1), v(1, none), v(inf, none), v(none, none),
	} {
		u, is := vec.Unit(a)
		if is || !sameVec(u, v(0, 0)) {
			t.Errorf("Unit(%v) is %v, %v: there is none", a, u, is)
		}
	}
	for _, c := range []struct{ a, want api.Vec }{
		{v(0x1p-537, 0), v(1, 0)}, {v(minus, -0x1p511), v(minus, -1)}, {v(-least, 1), v(-least, 1)},
	} {
		u, is := vec.Unit(c.a)
		if !is {
			t.Errorf("Unit(%v): there is one", c.a)
		}
		isVec(t, u, c.want, "Unit", c.a)
	}
}

func TestP2_5Same(t *testing.T) {
	l := edgeWays()
	for i, a := range l {
		for k, b := range l {
			if got := vec.Same(a, b); got != (i == k) {
				t.Errorf("Same(%v, %v) = %v", a, b, got)
			}
		}
	}
	for _, bits := range []uint64{0x7ff8000000000000, 0xfff8000000000000, 0xfff8000000000007, 0x7fffffffffffffff} {
		n := math.Float64frombits(bits)
		if !vec.Same(v(n, 1), v(none, 1)) || !vec.Same(v(1, none), v(1, n)) || vec.Same(v(n, 1), v(1, n)) {
			t.Errorf("Same with no number of the bits %x", bits)
		}
	}
	if vec.Same(v(1, 1), v(1, math.Nextafter(1, 2))) || vec.Same(v(math.Nextafter(1, 2), 1), v(1, 1)) {
		t.Error("neighbours are not the same")
	}
}

func TestP2_5Finite(t *testing.T) {
	overWays(func(a api.Vec) {
		if got := vec.Finite(a); got != finiteVec(a) {
			t.Errorf("Finite(%v) = %v", a, got)
		}
	})
}

func TestP2_5Within(t *testing.T) {
	overWays(func(a api.Vec) {
		for _, most := range edges() {
			want := math.Abs(a.X) <= most && math.Abs(a.Y) <= most
			if got := vec.Within(a, most); got != want {
				t.Errorf("Within(%v, %v) = %v", a, most, got)
			}
		}
	})
	above := math.Nextafter(2, 3)
	if !vec.Within(v(2, -2), 2) || vec.Within(v(above, 0), 2) || vec.Within(v(0, -above), 2) {
		t.Error("Within at its bound")
	}
	if !vec.Within(v(0, minus), minus) || vec.Within(v(0, 0), -1) || vec.Within(v(0, 0), none) || !vec.Within(v(inf, -inf), inf) {
		t.Error("Within a bound of nought, below nought, of no number, infinite")
	}
}

func TestP2_6Products(t *testing.T) {
	overPairs(func(a, b api.Vec) {
		isFloat(t, vec.Dot(b, a), vec.Dot(a, b), "Dot of b and a", a, b)
		back, cross := -vec.Cross(b, a), vec.Cross(a, b)
		if back != cross && !(math.IsNaN(back) && math.IsNaN(cross)) {
			t.Errorf("Cross(%v, %v) is %v, back %v", a, b, cross, back)
		}
		dot := vec.Dot(vec.Left(a), b)
		if finiteVec(a) && finiteVec(b) && cross != dot && !(math.IsNaN(cross) && math.IsNaN(dot)) {
			t.Errorf("Cross(%v, %v) is %v, Dot of Left %v", a, b, cross, dot)
		}
	})
}

func TestP2_6Turned(t *testing.T) {
	overWays(func(a api.Vec) {
		isVec(t, vec.Left(vec.Left(vec.Left(vec.Left(a)))), a, "Left four times", a)
		isVec(t, vec.Right(vec.Left(a)), a, "Right of Left", a)
		if finite(vec.Square(a)) && vec.Dot(a, vec.Left(a)) != 0 {
			t.Errorf("Dot of %v and Left is %v", a, vec.Dot(a, vec.Left(a)))
		}
		n := vec.Length(a)
		isFloat(t, vec.Length(vec.Left(a)), n, "Length of Left", a)
		isFloat(t, vec.Length(vec.Right(a)), n, "Length of Right", a)
		isFloat(t, vec.Length(vec.Neg(a)), n, "Length of Neg", a)
	})
}

func TestP2_7Unit(t *testing.T) {
	turns := []func(api.Vec) api.Vec{vec.Neg, vec.Left, vec.Right}
	overWays(func(a api.Vec) {
		u, is := vec.Unit(a)
		if s := vec.Square(u); is && vec.Square(a) >= 0x1p-900 && !(s >= 1-0x1p-48 && s <= 1+0x1p-48) {
			t.Errorf("Unit(%v) has the Square %v", a, s)
		}
		for i, turn := range turns {
			w, isToo := vec.Unit(turn(a))
			if isToo != is {
				t.Errorf("Unit of %v, turned by %v, tells %v", a, i, isToo)
			}
			if is {
				isVec(t, w, turn(u), "Unit of a way turned", i, a)
			}
		}
	})
	for _, a := range []api.Vec{v(0x1p-450, 0), v(0x1p-451, 0x1.bb67ae8584cabp-451), v(0x1.6a09e667f3bcdp-451, -0x1.6a09e667f3bcdp-451)} {
		u, is := vec.Unit(a)
		if s := vec.Square(u); !is || !(s >= 1-0x1p-48 && s <= 1+0x1p-48) {
			t.Errorf("Unit(%v) is %v, %v with the Square %v", a, u, is, s)
		}
	}
}

// times is what a power of two makes of a way, exactly.
func times(a api.Vec, power int) api.Vec { return v(math.Ldexp(a.X, power), math.Ldexp(a.Y, power)) }

func TestP2_8PowersOfTwo(t *testing.T) {
	p := plainWays(600)
	for i, a := range p[1:] {
		b := p[i]
		for _, k := range []int{-200, -31, -1, 0, 1, 2, 40, 200} {
			g, h := times(a, k), times(b, k)
			isVec(t, vec.Add(g, h), times(vec.Add(a, b), k), "Add, greater", a, b, k)
			isVec(t, vec.Sub(g, h), times(vec.Sub(a, b), k), "Sub, greater", a, b, k)
			isVec(t, vec.Scale(g, b.X), times(vec.Scale(a, b.X), k), "Scale, greater", a, b, k)
			isVec(t, vec.More(g, b.Y, h), times(vec.More(a, b.Y, b), k), "More, greater", a, b, k)
			isVec(t, vec.Middle(g, h), times(vec.Middle(a, b), k), "Middle, greater", a, b, k)
			isVec(t, vec.Left(g), times(vec.Left(a), k), "Left, greater", a, k)
			isVec(t, vec.Right(g), times(vec.Right(a), k), "Right, greater", a, k)
			isVec(t, vec.Neg(g), times(vec.Neg(a), k), "Neg, greater", a, k)
			isFloat(t, vec.Length(g), math.Ldexp(vec.Length(a), k), "Length, greater", a, k)
			isFloat(t, vec.Dot(g, h), math.Ldexp(vec.Dot(a, b), 2*k), "Dot, greater", a, b, k)
			isFloat(t, vec.Cross(g, h), math.Ldexp(vec.Cross(a, b), 2*k), "Cross, greater", a, b, k)
			isFloat(t, vec.Square(g), math.Ldexp(vec.Square(a), 2*k), "Square, greater", a, k)
			u, is := vec.Unit(g)
			w, isToo := vec.Unit(a)
			if !is || !isToo || !sameVec(u, w) {
				t.Errorf("Unit(%v) is %v, 2^%v times as great %v", a, w, k, u)
			}
		}
	}
}

func TestExamples(t *testing.T) {
	a, b := v(1, 2), v(3, -4)
	isVec(t, vec.Add(a, b), v(4, -2), "Add")
	isVec(t, vec.Sub(a, b), v(-2, 6), "Sub")
	isVec(t, vec.Scale(v(1, -2), 0.5), v(0.5, -1), "Scale")
	isVec(t, vec.Neg(v(0, 1)), v(minus, -1), "Neg")
	isVec(t, vec.More(v(1, 1), 2, b), v(7, -7), "More")
	isVec(t, vec.Middle(a, v(4, 2)), v(2.5, 2), "Middle")
	isFloat(t, vec.Dot(a, v(3, 4)), 11, "Dot")
	isFloat(t, vec.Cross(a, v(3, 4)), -2, "Cross")
	isFloat(t, vec.Cross(v(3, 4), a), 2, "Cross")
	isFloat(t, vec.Square(v(3, 4)), 25, "Square")
	isFloat(t, vec.Length(v(3, 4)), 5, "Length")
	isVec(t, vec.Left(a), v(-2, 1), "Left")
	isVec(t, vec.Right(a), v(2, -1), "Right")
	isVec(t, vec.Spin(2, v(1, 3)), v(-6, 2), "Spin")
	big := 0x1p27 + 1
	isFloat(t, vec.Dot(v(big, 1), v(big, -1)), 0x1p54+0x1p28, "Dot, rounded twice")
	for _, c := range []struct {
		a, want api.Vec
		is      bool
	}{
		{v(0, -2), v(0, -1), true}, {v(3, 4), v(0.6, 0.8), true},
		{v(0, minus), v(0, 0), false}, {v(1e200, 0), v(0, 0), false}, {v(none, 1), v(0, 0), false}, {v(1e-200, 0), v(0, 0), false},
	} {
		u, is := vec.Unit(c.a)
		if is != c.is {
			t.Errorf("Unit(%v) tells %v", c.a, is)
		}
		isVec(t, u, c.want, "Unit", c.a)
	}
	for i, c := range []struct{ got, want bool }{
		{vec.Same(v(none, 0), v(none, 0)), true}, {vec.Same(v(0, 0), v(minus, 0)), false},
		{vec.Within(v(1, -2), 2), true}, {vec.Within(v(1, none), 2), false}, {vec.Finite(v(1, inf)), false},
	} {
		if c.got != c.want {
			t.Errorf("comparison %v is %v", i, c.got)
		}
	}
}
