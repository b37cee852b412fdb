package frame_test

import (
	"math"
	"testing"

	"tumble/api"
	"tumble/frame"
)

var (
	minus = math.Copysign(0, -1)
	none  = math.NaN()
	inf   = math.Inf(1)
)

const (
	most  = math.MaxFloat64
	least = math.SmallestNonzeroFloat64
)

func v(x, y float64) api.Vec { return api.Vec{X: x, Y: y} }

// c keeps the noughts' signs, which sums of complex constants lose.
func c(re, im float64) complex128 { return complex(re, im) }

func at(x, y float64, q complex128) api.Frame { return api.Frame{At: v(x, y), Turn: q} }

// The oracle rounds each operation by itself: a call that is not inlined can't be worked out as one with the next.
//
//go:noinline
func add(a, b float64) float64 { return a + b }

//go:noinline
func sub(a, b float64) float64 { return a - b }

//go:noinline
func mul(a, b float64) float64 { return a * b }

//go:noinline
func div(a, b float64) float64 { return a / b }

// flipped flips the sign's bit itself, apart from what the language's minus does.
func flipped(a float64) float64 { return math.Float64frombits(math.Float64bits(a) ^ 1<<63) }

// same is told by bits, apart from what the package does.
func same(a, b float64) bool {
	if math.IsNaN(a) || math.IsNaN(b) {
		return math.IsNaN(a) && math.IsNaN(b)
	}
	return math.Float64bits(a) == math.Float64bits(b)
}

func sameFrame(a, b api.Frame) bool {
	return same(a.At.X, b.At.X) && same(a.At.Y, b.At.Y) && same(real(a.Turn), real(b.Turn)) && same(imag(a.Turn), imag(b.Turn))
}

func isVec(t *testing.T, got, want api.Vec, call string, args ...any) {
	t.Helper()
	if !same(got.X, want.X) || !same(got.Y, want.Y) {
		t.Fatalf("%s%v is %v, not %v", call, args, got, want)
	}
}

func isFrame(t *testing.T, got, want api.Frame, call string, args ...any) {
	t.Helper()
	if !sameFrame(got, want) {
		t.Fatalf("%s%v is %v, not %v", call, args, got, want)
	}
}

func isErrno(t *testing.T, got, want api.Errno, call string, args ...any) {
	t.Helper()
	if got != want {
		t.Fatalf("%s%v is %d, not %d", call, args, got, want)
	}
}

// The oracle's products of turns and places, by chapter 3's words.
func then(a, b complex128) complex128 {
	return c(sub(mul(real(a), real(b)), mul(imag(a), imag(b))), add(mul(real(a), imag(b)), mul(imag(a), real(b))))
}

func apply(q complex128, p api.Vec) api.Vec {
	return v(sub(mul(real(q), p.X), mul(imag(q), p.Y)), add(mul(imag(q), p.X), mul(real(q), p.Y)))
}

func undo(q complex128, p api.Vec) api.Vec {
	return v(add(mul(real(q), p.X), mul(imag(q), p.Y)), sub(mul(real(q), p.Y), mul(imag(q), p.X)))
}

func by(t float64) complex128 {
	s := mul(t, t)
	if math.IsInf(s, 1) {
		return -1
	}
	return c(div(sub(1, s), add(1, s)), div(add(t, t), add(1, s)))
}

func squareOf(q complex128) float64 { return add(mul(real(q), real(q)), mul(imag(q), imag(q))) }

func mayBe(q complex128) bool { return squareOf(q) >= 1-0x1p-40 && squareOf(q) <= 1+0x1p-40 }

func unitOr(q complex128) complex128 {
	l := math.Sqrt(squareOf(q))
	if u := c(div(real(q), l), div(imag(q), l)); mayBe(u) {
		return u
	}
	return q
}

func wantTo(f api.Frame, p api.Vec) api.Vec {
	w := apply(f.Turn, p)
	return v(add(f.At.X, w.X), add(f.At.Y, w.Y))
}

func wantOwn(f api.Frame, p api.Vec) api.Vec {
	return undo(f.Turn, v(sub(p.X, f.At.X), sub(p.Y, f.At.Y)))
}

func wantBack(f api.Frame) api.Frame {
	w := undo(f.Turn, f.At)
	return at(flipped(w.X), flipped(w.Y), c(real(f.Turn), flipped(imag(f.Turn))))
}

func wantMove(f api.Frame, speed api.Vec, spin, time float64) api.Frame {
	q := then(f.Turn, by(mul(mul(spin, time), 0.5)))
	return at(add(f.At.X, mul(time, speed.X)), add(f.At.Y, mul(time, speed.Y)), unitOr(q))
}

// Floats at which sums, products and signs have their edges.
func edges() []float64 {
	return []float64{none, -inf, -most, -0x1p600, -3.7, -1, -0x1p-600, -least, minus, 0, least, 0.1, 1, 0x1p27 + 1, most, inf}
}

// source makes floats from a rule of whole numbers: the same ones in each run.
type source uint64

func (s *source) next() uint64 {
	*s = *s*6364136223846793005 + 1442695040888963407
	return uint64(*s >> 11)
}

// plain has all its bits in use, and is from some 2^-20 to 2^20.
func (s *source) plain() float64 {
	whole := int64(s.next()) - 1<<52
	return math.Ldexp(float64(whole), int(s.next()>>20%40)-72)
}

// any is an edge as often as it is plain.
func (s *source) any() float64 {
	if l := edges(); s.next()>>20%2 == 0 {
		return l[s.next()>>20%uint64(len(l))]
	}
	return s.plain()
}

func (s *source) place(part func() float64) api.Vec { return v(part(), part()) }

func (s *source) frame(part func() float64) api.Frame { return at(part(), part(), c(part(), part())) }

// turned is a turn that may be, out to both ends of what is allowed.
func (s *source) turned() complex128 {
	sin, cos := math.Sincos(float64(s.next()>>20%720) * math.Pi / 360)
	long := []float64{1, 1 + 0x1.ffcp-42, 1 - 0x1.ffcp-42}[s.next()>>20%3]
	return c(cos*long, sin*long)
}

// overFrames hands over frames and places of any floats and of plain ones.
func overFrames(n int, f func(s *source, a, b api.Frame, p api.Vec)) {
	s := source(4)
	for range n {
		f(&s, s.frame(s.any), s.frame(s.any), s.place(s.any))
		f(&s, s.frame(s.plain), s.frame(s.plain), s.place(s.plain))
	}
}

func turns() []complex128 {
	l := []complex128{1, -1, 1i, -1i, c(1, minus), c(minus, -1), c(0.6, 0.8), c(-0.8, 0.6), c(1, 0x1p-20), c(1-0x1p-41, 0)}
	s := source(5)
	for range 400 {
		l = append(l, s.turned())
	}
	return l
}

// reals are floats as P4.6 speaks of them.
func reals() []float64 {
	l := []float64{0, minus, 1, -1, 0.1, -3.7, 0x1p40, -0x1p40, 0x1.fffffffffffffp39, 0x1p-300, -0x1p-300, 0x1.8p-300}
	s := source(6)
	for range 6 {
		l = append(l, s.plain())
	}
	return l
}

// overLying hands over frames that may be, and places.
func overLying(f func(a api.Frame, p api.Vec)) {
	l, q := reals(), turns()
	s := source(7)
	pick := func() float64 { return l[s.next()>>20%uint64(len(l))] }
	for _, turned := range q {
		for range 60 {
			f(at(pick(), pick(), turned), v(pick(), pick()))
		}
	}
}

func TestP4_1Home(t *testing.T) {
	isFrame(t, frame.Home(), at(0, 0, c(1, 0)), "Home")
}

func TestP4_1Check(t *testing.T) {
	high := math.Nextafter(0x1p40, inf)
	for _, q := range turns() {
		isErrno(t, frame.Check(at(0x1p40, -0x1p40, q)), api.OK, "Check", q)
		isErrno(t, frame.Check(at(minus, least, q)), api.OK, "Check", q)
		for _, bad := range []float64{high, -high, inf, -inf, none, most} {
			isErrno(t, frame.Check(at(bad, 0, q)), api.ErrReal, "Check", bad, 0, q)
			isErrno(t, frame.Check(at(0, bad, q)), api.ErrReal, "Check", 0, bad, q)
		}
	}
	for _, q := range []complex128{0, 2, 1i * 2, c(none, 0), c(1, none), c(inf, 0), c(0, -inf), 1 + 0x1p-40, c(1+0x1p-52, 0x1p-20), c(math.Nextafter(1-0x1p-41, 0), 0)} {
		isErrno(t, frame.Check(at(1, 2, q)), api.ErrTurn, "Check of the turn", q)
		isErrno(t, frame.Check(at(high, 2, q)), api.ErrReal, "Check: the place is looked at ahead of the turn", q)
		isErrno(t, frame.Check(at(1, none, q)), api.ErrReal, "Check: the place is looked at ahead of the turn", q)
	}
}

func TestP4_2To(t *testing.T) {
	overFrames(40000, func(_ *source, f, _ api.Frame, p api.Vec) {
		isVec(t, frame.To(f, p), wantTo(f, p), "To", f, p)
	})
	isVec(t, frame.To(at(minus, minus, 1), v(minus, minus)), v(0, minus), "To of noughts")
	isVec(t, frame.To(at(minus, minus, c(1, minus)), v(minus, minus)), v(minus, 0), "To of noughts")
	isVec(t, frame.To(at(inf, 1, 1), v(-inf, 1)), v(none, none), "To of what is infinite")
	isVec(t, frame.To(at(0, none, 1), v(1, 2)), v(1, none), "To of what is no number")
	isVec(t, frame.To(at(-0x1p54, 0, 1), v(0x1p54, 0x1p54)), v(0, 0x1p54), "To")
	isVec(t, frame.To(at(1, 0, c(1, 1)), v(0x1p53, 1)), v(0x1p53, 0x1p53), "To: the turned place is rounded, then the sum")
}

func TestP4_2Own(t *testing.T) {
	overFrames(40000, func(_ *source, f, _ api.Frame, p api.Vec) {
		isVec(t, frame.Own(f, p), wantOwn(f, p), "Own", f, p)
	})
	isVec(t, frame.Own(at(0, 0, 1), v(minus, minus)), v(minus, 0), "Own of noughts")
	isVec(t, frame.Own(at(minus, 0, c(1, minus)), v(minus, 0)), v(0, 0), "Own of noughts")
	isVec(t, frame.Own(at(inf, 0, 1), v(inf, 0)), v(none, none), "Own of what is infinite")
	isVec(t, frame.Own(at(0x1p53, 0, 2), v(-1, 0)), v(-0x1p54, 0), "Own: the difference is rounded first")
}

func TestP4_3Then(t *testing.T) {
	overFrames(40000, func(_ *source, a, b api.Frame, _ api.Vec) {
		p := wantTo(a, b.At)
		isFrame(t, frame.Then(a, b), at(p.X, p.Y, then(b.Turn, a.Turn)), "Then", a, b)
	})
	isFrame(t, frame.Then(at(5, 0, 1i), at(1, 0, 1)), at(5, 1, 1i), "Then: b lies in a's own places")
	isFrame(t, frame.Then(at(1, 0, 1), at(5, 0, 1i)), at(6, 0, 1i), "Then: b lies in a's own places")
	isFrame(t, frame.Then(at(minus, minus, c(1, minus)), at(minus, minus, c(minus, minus))), at(minus, 0, c(minus, 0)), "Then of noughts")
	isFrame(t, frame.Then(at(0, 0, c(inf, 0)), at(1, 1, 1)), at(inf, inf, c(inf, none)), "Then of what is infinite")
}

func TestP4_3Back(t *testing.T) {
	overFrames(40000, func(_ *source, f, _ api.Frame, _ api.Vec) {
		isFrame(t, frame.Back(f), wantBack(f), "Back", f)
	})
	isFrame(t, frame.Back(at(0, 0, c(1, 0))), at(minus, minus, c(1, minus)), "Back: the signs of noughts turn, too")
	isFrame(t, frame.Back(at(minus, minus, c(1, minus))), at(minus, 0, c(1, 0)), "Back of noughts")
	isFrame(t, frame.Back(at(inf, 0, c(1, -inf))), at(none, -inf, c(1, inf)), "Back of what is infinite")
	isFrame(t, frame.Back(at(none, 1, 1)), at(none, none, c(1, minus)), "Back of what is no number")
}

func TestP4_4Move(t *testing.T) {
	overFrames(40000, func(s *source, f, _ api.Frame, speed api.Vec) {
		spin, time := s.any(), s.any()
		isFrame(t, frame.Move(f, speed, spin, time), wantMove(f, speed, spin, time), "Move", f, speed, spin, time)
		f.Turn = s.turned()
		spin, time = s.plain(), s.plain()
		isFrame(t, frame.Move(f, speed, spin, time), wantMove(f, speed, spin, time), "Move", f, speed, spin, time)
	})
}

func TestP4_4MoveThePlace(t *testing.T) {
	isFrame(t, frame.Move(at(1, 2, 1), v(3, -5), 0, 2), at(7, -8, 1), "Move")
	isFrame(t, frame.Move(at(1, 2, 1), v(3, -5), 0, -2), at(-5, 12, 1), "Move back in time")
	isFrame(t, frame.Move(at(minus, minus, 1), v(minus, 0), 0, 1), at(minus, 0, 1), "Move of noughts")
	big := 0x1p27 + 1
	isFrame(t, frame.Move(at(-0x1p54-0x1p28, 0, 1), v(big, 0), 0, big), at(0, 0, 1), "Move: the product is rounded ahead of the sum")
	isFrame(t, frame.Move(at(none, 1, 1), v(1, 1), 0, 1), at(none, 2, 1), "Move of what is no number")
	isFrame(t, frame.Move(at(0, 0, 1), v(inf, 0), 0, 0), at(none, 0, 1), "Move of what is infinite, for no time")
}

func TestP4_4MoveTheTurn(t *testing.T) {
	home := frame.Home()
	isFrame(t, frame.Move(home, v(0, 0), 0.5, 2), at(0, 0, 0.6+0.8i), "Move by half a tangent")
	isFrame(t, frame.Move(home, v(0, 0), -1, 1), at(0, 0, 0.6-0.8i), "Move to the right")
	isFrame(t, frame.Move(home, v(0, 0), minus, 1), at(0, 0, c(1, 0)), "Move with minus nought")
	isFrame(t, frame.Move(at(0, 0, c(1, minus)), v(0, 0), minus, 1), at(0, 0, c(1, minus)), "Move with minus nought")
	isFrame(t, frame.Move(home, v(0, 0), 0x1p600, 0x1p600), at(0, 0, c(-1, 0)), "Move by a spin without end")
	isFrame(t, frame.Move(home, v(0, 0), inf, 0), at(0, 0, c(none, none)), "Move by no number")
	isFrame(t, frame.Move(home, v(0, 0), least, 0.5), at(0, 0, c(1, 0)), "Move: spin and time are multiplied first")
	isFrame(t, frame.Move(at(0, 0, 3+4i), v(0, 0), 0, 1), at(0, 0, 0.6+0.8i), "Move: the turn is made as long as 1")
	isFrame(t, frame.Move(at(0, 0, 0), v(0, 0), 2, 1), at(0, 0, 0), "Move: what has no length stays")
	isFrame(t, frame.Move(at(0, 0, c(inf, 1)), v(0, 0), 0, 1), at(0, 0, c(inf, none)), "Move: what has no length stays")
	isFrame(t, frame.Move(at(0, 0, 0x1p600), v(0, 0), 0, 1), at(0, 0, 0x1p600), "Move: what has no length stays")
}

func TestP4_5Same(t *testing.T) {
	other := math.Float64frombits(math.Float64bits(none) ^ 1<<63 ^ 5)
	l := append(edges(), other)
	parts := func(a float64) []api.Frame {
		return []api.Frame{at(a, 2, 3+4i), at(1, a, 3+4i), at(1, 2, c(a, 4)), at(1, 2, c(3, a))}
	}
	for _, a := range l {
		for _, b := range l {
			for i, f := range parts(a) {
				if g := parts(b)[i]; frame.Same(f, g) != same(a, b) {
					t.Errorf("Same(%v, %v) is not %v", f, g, same(a, b))
				}
			}
		}
	}
	overFrames(4000, func(_ *source, f, g api.Frame, _ api.Vec) {
		if frame.Same(f, g) != sameFrame(f, g) {
			t.Errorf("Same(%v, %v) is not %v", f, g, sameFrame(f, g))
		}
		if !frame.Same(f, f) {
			t.Errorf("Same(%v) with itself is false", f)
		}
	})
}

func TestP4_5SameIsNotSwapped(t *testing.T) {
	f := at(1, 2, 3+4i)
	for _, g := range []api.Frame{at(2, 1, 3+4i), at(1, 2, 4+3i), at(3, 4, 1+2i)} {
		if frame.Same(f, g) {
			t.Errorf("Same(%v, %v)", f, g)
		}
	}
}

// As numbers: == takes both noughts as one.
func TestP4_6Home(t *testing.T) {
	overLying(func(f api.Frame, p api.Vec) {
		if got := frame.To(frame.Home(), p); got != p {
			t.Fatalf("To by Home of %v is %v", p, got)
		}
		if got := frame.Own(frame.Home(), p); got != p {
			t.Fatalf("Own by Home of %v is %v", p, got)
		}
		if got := frame.Then(frame.Home(), f); got != f {
			t.Fatalf("Then of Home and %v is %v", f, got)
		}
		if got := frame.Then(f, frame.Home()); got != f {
			t.Fatalf("Then of %v and Home is %v", f, got)
		}
	})
}

func TestP4_6ThereAndBack(t *testing.T) {
	overLying(func(f api.Frame, p api.Vec) {
		near := (math.Abs(p.X) + math.Abs(p.Y) + math.Abs(f.At.X) + math.Abs(f.At.Y)) * 0x1p-36
		isNear := func(got api.Vec, call string) {
			if !(math.Abs(got.X-p.X) <= near && math.Abs(got.Y-p.Y) <= near) {
				t.Fatalf("%s by %v of %v is %v", call, f, p, got)
			}
		}
		there := frame.To(f, p)
		isNear(frame.Own(f, there), "Own of To")
		isNear(frame.To(frame.Back(f), there), "To by Back of To")
	})
}

func TestP4_6MoveKeeps(t *testing.T) {
	overLying(func(f api.Frame, p api.Vec) {
		for _, still := range []float64{0, minus} {
			if got := frame.Move(f, v(still, still), still, p.X); got.At != f.At {
				t.Fatalf("Move(%v) for %v goes to %v", f, p.X, got.At)
			}
		}
		if got := frame.Move(f, p, p.X, p.Y); !mayBe(got.Turn) || frame.Check(api.Frame{Turn: got.Turn}) != api.OK {
			t.Fatalf("Move(%v) by %v for %v has the turn %v", f, p.X, p.Y, got.Turn)
		}
	})
}

func TestP4_6MoveDoes(t *testing.T) {
	overLying(func(f api.Frame, p api.Vec) {
		time := math.Abs(f.At.Y)
		home := frame.Home()
		once := frame.Move(home, p, 1, time)
		want := v(2*once.At.X, 2*once.At.Y)
		isVec(t, frame.Move(home, v(2*p.X, 2*p.Y), 1, time).At, want, "Move at twice the speed", p, time)
		isVec(t, frame.Move(home, p, 1, 2*time).At, want, "Move for twice the time", p, time)
		as := frame.Move(f, v(p.X/2, p.Y/2), 1, 2*time)
		isVec(t, as.At, frame.Move(f, p, 1, time).At, "Move at half the speed for twice the time", f, p, time)
	})
}

func TestExamples(t *testing.T) {
	f, g, home := at(1, 2, 1i), at(0, 1, 0.6+0.8i), frame.Home()
	isErrno(t, frame.Check(home), api.OK, "Check")
	isErrno(t, frame.Check(at(0x1p41, 0, 1)), api.ErrReal, "Check")
	isErrno(t, frame.Check(at(0, 0, 2)), api.ErrTurn, "Check")
	isErrno(t, frame.Check(at(none, 0, 2)), api.ErrReal, "Check")
	isVec(t, frame.To(f, v(3, 4)), v(-3, 5), "To")
	isVec(t, frame.Own(f, v(-3, 5)), v(3, 4), "Own")
	isFrame(t, frame.Then(f, g), at(0, 2, -0.8+0.6i), "Then")
	isFrame(t, frame.Back(f), at(-2, 1, c(0, -1)), "Back")
	isFrame(t, frame.Move(home, v(2, -4), 0, 0.5), at(1, -2, 1), "Move")
	isFrame(t, frame.Move(f, v(0, 0), 2, 1), at(1, 2, -1), "Move")
	isFrame(t, frame.Move(home, v(inf, 0), none, 1), at(inf, 0, c(none, none)), "Move")
	if !frame.Same(f, f) || frame.Same(at(0, 0, 1), at(minus, 0, 1)) || !frame.Same(at(none, none, c(none, none)), at(none, none, c(none, none))) {
		t.Error("Same of the examples")
	}
}
