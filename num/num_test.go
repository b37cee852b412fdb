package num_test

import (
	"math"
	"testing"

	"tumble/num"
)

type (
	own32 float32
	own64 float64
)

var (
	minus = math.Copysign(0, -1)
	none  = math.NaN()
	inf   = math.Inf(1)
)

// The oracle of 'the same' is told by bits, apart from what the package does.
func sameBits(a, b float64) bool {
	if math.IsNaN(a) || math.IsNaN(b) {
		return math.IsNaN(a) && math.IsNaN(b)
	}
	return math.Float64bits(a) == math.Float64bits(b)
}

// A row of floats that every width holds exactly, each ahead of the next one; the first is no number.
func row() []float64 {
	return []float64{
		none, -inf, -math.MaxFloat32, -3, -1.5, -1, -math.SmallestNonzeroFloat32, minus,
		0, math.SmallestNonzeroFloat32, 1, 1.5, 3, math.MaxFloat32, inf,
	}
}

// The row with the ends of float64, which a float32 does not hold.
func wideRow() []float64 {
	return []float64{
		none, -inf, -math.MaxFloat64, -1, -math.SmallestNonzeroFloat64, minus,
		0, math.SmallestNonzeroFloat64, 1, math.Nextafter(1, 2), math.MaxFloat64, inf,
	}
}

// Floats that are no numbers, of either sign and several payloads.
func nones() []float64 {
	return []float64{
		none,
		math.Float64frombits(0x7ff8000000000000),
		math.Float64frombits(0xfff8000000000000),
		math.Float64frombits(0xfff8000000000007),
		math.Float64frombits(0x7fffffffffffffff),
	}
}

// With every width and a type of one's own of each.
func everyType(t *testing.T, f32 func(*testing.T), f64 func(*testing.T), o32 func(*testing.T), o64 func(*testing.T)) {
	t.Run("float32", f32)
	t.Run("float64", f64)
	t.Run("own32", o32)
	t.Run("own64", o64)
}

func checkSame[T num.Real](t *testing.T) {
	for i, a := range row() {
		for k, b := range row() {
			if got := num.Same(T(a), T(b)); got != (i == k) {
				t.Errorf("Same(%v, %v) = %v", a, b, got)
			}
		}
	}
	for _, a := range nones() {
		for _, b := range nones() {
			if !num.Same(T(a), T(b)) {
				t.Errorf("Same(%x, %x): both are no numbers", math.Float64bits(a), math.Float64bits(b))
			}
		}
		if num.Same(T(a), 1) || num.Same(1, T(a)) {
			t.Errorf("Same(%x, 1)", math.Float64bits(a))
		}
	}
}

func TestP1_1Same(t *testing.T) {
	everyType(t, checkSame[float32], checkSame[float64], checkSame[own32], checkSame[own64])
	for i, a := range wideRow() {
		for k, b := range wideRow() {
			if got := num.Same(a, b); got != (i == k) {
				t.Errorf("Same(%v, %v) = %v", a, b, got)
			}
		}
	}
	if num.Same(float32(1), math.Nextafter32(1, 2)) {
		t.Error("neighbours of float32 are not the same")
	}
}

func checkFinite[T num.Real](t *testing.T) {
	for _, a := range row() {
		want := !math.IsNaN(a) && !math.IsInf(a, 0)
		if got := num.Finite(T(a)); got != want {
			t.Errorf("Finite(%v) = %v", a, got)
		}
	}
	for _, a := range nones() {
		if num.Finite(T(a)) {
			t.Errorf("Finite(%x): it is no number", math.Float64bits(a))
		}
	}
}

func TestP1_1Finite(t *testing.T) {
	everyType(t, checkFinite[float32], checkFinite[float64], checkFinite[own32], checkFinite[own64])
	for _, a := range []float64{math.MaxFloat64, -math.MaxFloat64, math.SmallestNonzeroFloat64} {
		if !num.Finite(a) {
			t.Errorf("Finite(%v)", a)
		}
	}
	if big := math.MaxFloat64; num.Finite(float32(big)) {
		t.Error("what is too great for float32 is infinite there")
	}
}

func checkWithin[T num.Real](t *testing.T) {
	for i, c := range []struct {
		a, most float64
		want    bool
	}{
		{-2, 2, true}, {2, 2, true}, {1, 2, true}, {-1, 2, true}, {2.5, 2, false}, {-2.5, 2, false},
		{0, 0, true}, {minus, 0, true}, {0, minus, true}, {minus, minus, true},
		{math.SmallestNonzeroFloat32, 0, false}, {-math.SmallestNonzeroFloat32, 0, false},
		{0, -1, false}, {-1, -1, false}, {1, -1, false}, {-3, -1, false}, {3, -1, false},
		{none, 2, false}, {none, inf, false}, {1, none, false}, {0, none, false}, {none, none, false},
		{inf, inf, true}, {-inf, inf, true}, {0, inf, true}, {inf, 2, false}, {-inf, 2, false},
		{0, -inf, false}, {inf, -inf, false}, {-inf, -inf, false},
	} {
		if got := num.Within(T(c.a), T(c.most)); got != c.want {
			t.Errorf("%d: Within(%v, %v) = %v", i, c.a, c.most, got)
		}
	}
}

func TestP1_2Within(t *testing.T) {
	everyType(t, checkWithin[float32], checkWithin[float64], checkWithin[own32], checkWithin[own64])
}

func checkClamp[T num.Real](t *testing.T) {
	for i, c := range []struct{ a, low, high, want float64 }{
		{5, 0, 3, 3}, {-1, 0, 3, 0}, {2, 0, 3, 2}, {0, 0, 3, 0}, {3, 0, 3, 3},
		{none, 0, 3, 0}, {none, minus, 3, minus}, {none, none, 3, none},
		{minus, 0, 3, 0}, {0, minus, 3, minus}, {0, -3, minus, 0}, {minus, -3, 0, minus},
		{1, none, 3, none}, {5, none, 3, none}, {5, 0, none, 5}, {-5, 0, none, 0}, {1, none, none, none},
		{inf, 0, 3, 3}, {-inf, 0, 3, 0}, {inf, 0, none, inf}, {7, -inf, inf, 7},
		{inf, -inf, inf, inf}, {-inf, -inf, inf, -inf},
		{1, 3, 0, 3}, {5, 3, 0, 0}, {3, 3, 0, 3}, {-1, 3, 0, 3},
	} {
		got := num.Clamp(T(c.a), T(c.low), T(c.high))
		if !sameBits(float64(got), c.want) {
			t.Errorf("%d: Clamp(%v, %v, %v) = %v, not %v", i, c.a, c.low, c.high, got, c.want)
		}
	}
}

func TestP1_2Clamp(t *testing.T) {
	everyType(t, checkClamp[float32], checkClamp[float64], checkClamp[own32], checkClamp[own64])
}

// Every pair of the row, which rises and has minus nought ahead of nought: the lesser one is the one ahead, but for no number.
func checkPicks[T num.Real](t *testing.T) {
	l := row()
	for i := range l {
		for k := range l {
			least, most := l[min(i, k)], l[max(i, k)]
			if i == 0 || k == 0 {
				least = most
			}
			a, b := T(l[i]), T(l[k])
			if got := num.Least(a, b); !sameBits(float64(got), least) {
				t.Errorf("Least(%v, %v) = %v, not %v", a, b, got, least)
			}
			if got := num.Most(a, b); !sameBits(float64(got), most) {
				t.Errorf("Most(%v, %v) = %v, not %v", a, b, got, most)
			}
		}
	}
}

func TestP1_3LeastMost(t *testing.T) {
	everyType(t, checkPicks[float32], checkPicks[float64], checkPicks[own32], checkPicks[own64])
}

func checkSign[T num.Real](t *testing.T) {
	for i, a := range row() {
		want := 0
		if i > 0 && i < 7 {
			want = -1
		} else if i > 8 {
			want = 1
		}
		if got := num.Sign(T(a)); got != want {
			t.Errorf("Sign(%v) = %d, not %d", a, got, want)
		}
	}
}

func TestP1_4Sign(t *testing.T) {
	everyType(t, checkSign[float32], checkSign[float64], checkSign[own32], checkSign[own64])
	if num.Sign(math.SmallestNonzeroFloat64) != 1 || num.Sign(-math.SmallestNonzeroFloat64) != -1 {
		t.Error("the smallest floats have signs")
	}
}

func TestP1_4Order(t *testing.T) {
	for _, l := range [][]float64{row(), wideRow()} {
		for i, a := range l {
			for k, b := range l {
				want := 0
				if i < k {
					want = -1
				} else if i > k {
					want = 1
				}
				if got := num.Order(a, b); got != want {
					t.Errorf("Order(%v, %v) = %d, not %d", a, b, got, want)
				}
			}
		}
	}
	for _, a := range nones() {
		for _, b := range nones() {
			if num.Order(a, b) != 0 {
				t.Errorf("Order(%x, %x): one place", math.Float64bits(a), math.Float64bits(b))
			}
		}
		if num.Order(a, -inf) != -1 || num.Order(-inf, a) != 1 {
			t.Errorf("%x stands ahead of minus infinite", math.Float64bits(a))
		}
	}
}

func TestP1_5Bits(t *testing.T) {
	for _, a := range nones() {
		if got := num.Bits(a); got != 0x7ff8000000000000 {
			t.Errorf("Bits(%x) = %x", math.Float64bits(a), got)
		}
	}
	for _, c := range []struct {
		a    float64
		bits uint64
	}{
		{0, 0}, {minus, 1 << 63}, {1, 0x3ff0000000000000}, {-2, 0xc000000000000000}, {0.1, 0x3fb999999999999a},
		{inf, 0x7ff0000000000000}, {-inf, 0xfff0000000000000},
		{math.SmallestNonzeroFloat64, 1}, {math.MaxFloat64, 0x7fefffffffffffff},
	} {
		if got := num.Bits(c.a); got != c.bits {
			t.Errorf("Bits(%v) = %x, not %x", c.a, got, c.bits)
		}
		if got := num.From(c.bits); !sameBits(got, c.a) {
			t.Errorf("From(%x) = %v, not %v", c.bits, got, c.a)
		}
	}
	for _, bits := range []uint64{0x7ff8000000000000, 0xfff8000000000007, 0x7fffffffffffffff} {
		if got := num.From(bits); math.Float64bits(got) != bits {
			t.Errorf("From(%x) has the bits %x", bits, math.Float64bits(got))
		}
	}
}

func TestP1_6Sum(t *testing.T) {
	const far = 0x1p53
	for i, c := range []struct {
		l    []float64
		want float64
	}{
		{nil, 0}, {[]float64{}, 0}, {[]float64{minus}, minus}, {[]float64{7}, 7}, {[]float64{minus, minus}, minus},
		{[]float64{minus, 0}, 0}, {[]float64{0, minus}, 0}, {[]float64{1, 2, 4, 8}, 15},
		{[]float64{1, far, 1}, far}, {[]float64{far, 1, 1}, far}, {[]float64{1, 1, far}, far + 2},
		{[]float64{far, 1, -far}, 0}, {[]float64{far, -far, 1}, 1},
		{[]float64{inf, 1}, inf}, {[]float64{inf, -inf}, none}, {[]float64{inf, -inf, 1}, none}, {[]float64{none, 1}, none},
		{[]float64{math.MaxFloat64, math.MaxFloat64, -math.MaxFloat64}, inf},
		{[]float64{math.MaxFloat64, -math.MaxFloat64, math.MaxFloat64}, math.MaxFloat64},
	} {
		ahead := append([]float64(nil), c.l...)
		if got := num.Sum(c.l...); !sameBits(got, c.want) {
			t.Errorf("%d: Sum(%v) = %v, not %v", i, c.l, got, c.want)
		}
		for k := range ahead {
			if !sameBits(ahead[k], c.l[k]) {
				t.Errorf("%d: Sum has changed what it was handed", i)
			}
		}
	}
}

func TestP1_6Between(t *testing.T) {
	for i, c := range []struct{ a, b, t, want float64 }{
		{1, 3, 0.5, 2}, {1, 3, 0, 1}, {1, 3, 1, 3}, {1, 3, 2, 5}, {1, 3, -1, -1}, {4, 4, 9, 4}, {3, 1, 0.25, 2.5},
		{1, inf, 0, none}, {1, inf, 0.5, inf}, {inf, 1, 0.5, none}, {inf, inf, 0, none},
		{none, 1, 0, none}, {1, none, 0, none}, {1, 2, none, none}, {1, 1, inf, none},
		// b - a is rounded ahead of the product, and overflows by itself.
		{-math.MaxFloat64, math.MaxFloat64, 0.5, inf},
		{0x1p53, 1, 1, 1}, {1, 0x1p60, 1, 0x1p60}, {0x1p60, 1, 1, 0},
		// The product is rounded ahead of the sum: in one go this would be -0x1p-60.
		{-1, 0x1p-30, 1 - 0x1p-30, 0},
		{minus, minus, 1, 0}, {minus, 0, -1, minus},
	} {
		if got := num.Between(c.a, c.b, c.t); !sameBits(got, c.want) {
			t.Errorf("%d: Between(%v, %v, %v) = %v, not %v", i, c.a, c.b, c.t, got, c.want)
		}
	}
}

func TestP1_7Order(t *testing.T) {
	l := append(wideRow(), nones()...)
	l = append(l, row()...)
	for _, a := range l {
		for _, b := range l {
			if num.Same(a, b) != (num.Order(a, b) == 0) {
				t.Errorf("Same(%v, %v) is not Order 0", a, b)
			}
			if num.Order(a, b) != -num.Order(b, a) {
				t.Errorf("Order of %v and %v is not the other way round", a, b)
			}
			for _, c := range l {
				if num.Order(a, b) <= 0 && num.Order(b, c) <= 0 && num.Order(a, c) > 0 {
					t.Errorf("no row: %v, %v, %v", a, b, c)
				}
			}
		}
	}
}

func TestP1_7LeastMost(t *testing.T) {
	l := append(wideRow(), row()...)
	for _, a := range l {
		for _, b := range l {
			least, most := num.Least(a, b), num.Most(a, b)
			if !sameBits(least, num.Least(b, a)) || !sameBits(most, num.Most(b, a)) {
				t.Errorf("%v and %v: the order of the arguments shows", a, b)
			}
			if math.IsNaN(a) || math.IsNaN(b) {
				continue
			}
			if !(sameBits(least, a) && sameBits(most, b) || sameBits(least, b) && sameBits(most, a)) {
				t.Errorf("Least and Most of %v and %v are %v and %v", a, b, least, most)
			}
		}
	}
}

func TestP1_7Clamp(t *testing.T) {
	l := wideRow()
	for _, low := range l[1:] {
		for _, high := range l[1:] {
			if low > high {
				continue
			}
			for _, a := range l {
				if got := num.Clamp(a, low, high); !(low <= got && got <= high) {
					t.Errorf("Clamp(%v, %v, %v) = %v", a, low, high, got)
				}
			}
		}
	}
	for _, most := range l[6:] {
		for _, a := range l {
			if got := num.Clamp(a, -most, most); !num.Within(got, most) {
				t.Errorf("Clamp(%v, %v, %v) = %v is not Within", a, -most, most, got)
			}
		}
	}
}

func TestP1_7Bits(t *testing.T) {
	for _, a := range append(append(wideRow(), row()...), nones()...) {
		if got := num.From(num.Bits(a)); !num.Same(got, a) || !sameBits(got, a) {
			t.Errorf("From of Bits of %v is %v", a, got)
		}
	}
}

func TestP1_7Between(t *testing.T) {
	l := append(wideRow(), row()...)
	for _, a := range l {
		for _, b := range l {
			if !num.Finite(a) || !num.Finite(b) || !num.Finite(b-a) {
				continue
			}
			if got := num.Between(a, b, 0); got != a {
				t.Errorf("Between(%v, %v, 0) = %v", a, b, got)
			}
		}
	}
}

// The chapter's table, row by row.
func TestExamples(t *testing.T) {
	for name, holds := range map[string]bool{
		"Same":    !num.Same(0, minus) && num.Same(none, none) && num.Same(1.0, 1.0),
		"Finite":  !num.Finite(inf) && !num.Finite(none) && num.Finite(minus),
		"Within":  num.Within(-2.0, 2.0) && !num.Within(none, 2) && !num.Within(0.0, -1.0) && num.Within(inf, inf),
		"Clamp":   sameBits(num.Clamp(5.0, 0, 3), 3) && sameBits(num.Clamp(none, 0, 3), 0) && sameBits(num.Clamp(minus, 0, 3), 0) && sameBits(num.Clamp(1, none, 3), none) && sameBits(num.Clamp(5, 0, none), 5),
		"Least":   sameBits(num.Least(0, minus), minus) && sameBits(num.Least(none, 1), 1),
		"Most":    sameBits(num.Most(minus, 0), 0) && sameBits(num.Most(none, none), none),
		"Sign":    num.Sign(minus) == 0 && num.Sign(none) == 0 && num.Sign(-inf) == -1,
		"Order":   num.Order(none, -inf) == -1 && num.Order(minus, 0) == -1 && num.Order(none, none) == 0,
		"Bits":    num.Bits(none) == 0x7ff8000000000000 && num.Bits(1) == 0x3ff0000000000000,
		"Sum":     sameBits(num.Sum(), 0) && sameBits(num.Sum(minus), minus) && num.Sum(1, 0x1p53, 1) == 0x1p53,
		"Between": num.Between(1, 3, 0.5) == 2 && sameBits(num.Between(1, inf, 0), none),
	} {
		if !holds {
			t.Error(name)
		}
	}
}
