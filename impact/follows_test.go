package impact_test

import (
	"math"
	"slices"
	"testing"

	"tumble/api"
	"tumble/impact"
	"tumble/num"
	"tumble/shape"
)

func TestP24_5Beginning(t *testing.T) {
	s := source(11)
	for range 20000 {
		f, to := s.way(math.Ldexp(1, s.below(79)-40))
		got, e := impact.Frame(f, to, []float64{0, minus}[s.below(2)])
		// As numbers: a minus nought may lose its sign.
		if e != api.OK || got.At != f.At {
			t.Fatalf("Frame(%v, %v, 0) is %v %d", f, to, got, e)
		}
	}
}

// TestP24_5Time: at its part nothing touches, but just behind it something does; where it is false, nothing touches at any look.
func TestP24_5Time(t *testing.T) {
	s, count := source(12), map[string]int{}
	for range 3000 {
		a, b, g := s.shape(), s.shape(), s.frame(1)
		f, to := s.way([]float64{2, 6, 20}[s.below(3)])
		part, is := timeOf(t, a, b, f, g, to)
		count[kindOf(part, is)]++
		touches := func(part float64) bool { return isTouch(a, b, f, g, to, part) }
		switch {
		case !is:
			if part != 0 {
				t.Fatalf("there is no time, but %v", part)
			}
			for k := range 65 {
				if touches(float64(k) / 64) {
					t.Fatalf("it is false, but at %d of 64 they touch", k)
				}
			}
		case part == 0:
			if !touches(0) && !touches(0x1p-66) {
				t.Fatal("it is 0, but they do not touch there")
			}
		case !(part > 0 && part < 1) || touches(part):
			t.Fatalf("at %v they touch already, or it is none", part)
		case part >= 1.0/64 && !touches(math.Nextafter(part, 1)):
			t.Fatalf("just behind %v they do not touch", part)
		}
		for k := 0; is && float64(k)/64 <= part && part > 0; k++ {
			if touches(float64(k) / 64) {
				t.Fatalf("at %d of 64, ahead of %v, they touch", k, part)
			}
		}
	}
	enough(t, count, 200, "none", "at once", "later")
}

// TestP24_5Others: more others hold a body up sooner or not at all; those that are not Fixed do not count; nor does the order.
func TestP24_5Others(t *testing.T) {
	s, count := source(13), map[string]int{}
	for range 300 {
		f, to := s.way(6)
		b, others := s.body(api.Free, f), s.others(5)
		last := 1.0
		for n := range len(others) + 1 {
			part, e := impact.Body(b, to, others[:n])
			isErr(t, e, api.OK, "Body", n)
			if !(part >= 0 && part <= last) {
				t.Fatalf("with %d others it is %v, with one less %v", n, part, last)
			}
			if part < last {
				count["sooner"]++
			}
			last = part
		}
		still := slices.DeleteFunc(slices.Clone(others), func(o api.Body) bool { return o.Kind != api.Fixed })
		count["not fixed"] += len(others) - len(still)
		isBody(t, b, to, still, last)
		slices.Reverse(still)
		isBody(t, b, to, still, last)
	}
	enough(t, count, 60, "sooner", "not fixed")
}

// TestP24_5Free: up to the part that is told, no Fixed body is touched that was not from the beginning on.
func TestP24_5Free(t *testing.T) {
	s, count := source(14), 0
	for range 300 {
		f, to := s.way(6)
		b, o := thing(api.Free, f, s.shape()), thing(api.Fixed, s.frame(1), s.shape())
		part, e := impact.Body(b, to, []api.Body{o})
		isErr(t, e, api.OK, "Body", b, to, o)
		if part == 1 {
			continue
		}
		count++
		if isTouch(b.Parts[0].Shape, o.Parts[0].Shape, f, o.Frame, to, part) {
			t.Fatalf("at %v it is in it", part)
		}
	}
	if count < 60 {
		t.Error("so few were held up:", count)
	}
}

// coarse is a float as the promise asks for it: nought, or at least 2^-20.
func coarse(a float64) float64 {
	if num.Within(a, 0x1p-20) {
		return 0
	}
	return a
}

func coarseVec(p api.Vec) api.Vec { return v(coarse(p.X), coarse(p.Y)) }

func coarseFrame(f api.Frame) api.Frame {
	return api.Frame{At: coarseVec(f.At), Turn: complex(coarse(real(f.Turn)), coarse(imag(f.Turn)))}
}

// isShort tells of a shape whether a length of it, or its radius, is below 2^-20.
func isShort(w api.Shape) bool {
	for i, p := range w.Points {
		next := w.Points[(i+1)%len(w.Points)]
		if len(w.Points) > 1 && math.Hypot(next.X-p.X, next.Y-p.Y) < 0x1p-20 {
			return true
		}
	}
	return w.Kind != api.Polygon && w.Radius < 0x1p-20
}

// coarseShape is a shape so many times as great; false: it may not be, or is too small for the promise.
func coarseShape(w api.Shape, by float64) (api.Shape, bool) {
	w = scaledShape(w, by)
	for i, p := range w.Points {
		w.Points[i] = coarseVec(p)
	}
	return w, shape.Check(w) == api.OK && !isShort(w)
}

func TestP24_5PowersOfTwo(t *testing.T) {
	s, count, kinds := source(15), map[int]int{}, map[string]int{}
	for range 4000 {
		size := math.Ldexp(1, s.below(43)-16)
		sizeA, sizeB := size, size
		if s.coin() {
			// What is small and far away lies as rounding lets it.
			sizeA, sizeB = math.Ldexp(1, s.below(43)-16), math.Ldexp(1, s.below(43)-16)
		}
		a, well := coarseShape(s.shape(), sizeA)
		b, too := coarseShape(s.shape(), sizeB)
		if !well || !too {
			continue
		}
		f, to := s.way([]float64{2, 6}[s.below(2)])
		f, to = coarseFrame(scaledFrame(f, size)), coarseFrame(scaledFrame(to, size))
		g := coarseFrame(scaledFrame(s.frame(1), size))
		k := s.below(17) - 8
		by := math.Ldexp(1, k)
		part, is := timeOf(t, a, b, f, g, to)
		isTime(t, scaledShape(a, by), scaledShape(b, by), scaledFrame(f, by), scaledFrame(g, by), scaledFrame(to, by), part, is)
		count[k]++
		kinds[kindOf(part, is)]++
		at := s.part()
		between, e := impact.Frame(f, to, at)
		isErr(t, e, api.OK, "Frame", f, to, at)
		isFrame(t, scaledFrame(f, by), scaledFrame(to, by), at, scaledFrame(between, by))
	}
	for k := -8; k <= 8; k++ {
		enough(t, count, 100, k)
	}
	enough(t, kinds, 200, "none", "at once", "later")
}

// TestW5Body: bodies so many times as great meet at the same part of their ways.
func TestW5Body(t *testing.T) {
	s, count := source(16), map[string]int{}
	for range 600 {
		f, to := s.way(6)
		b, others := s.body(api.Free, f), s.others(4)
		part, e := impact.Body(b, to, others)
		isErr(t, e, api.OK, "Body", b, to, others)
		by := math.Ldexp(1, s.below(17)-8)
		isBody(t, scaledBody(b, by), scaledFrame(to, by), scaledBodies(others, by), part)
		count[kindOf(part, part != 1)]++
	}
	enough(t, count, 150, "none", "later")
}

// TestR1Any: whatever is handed in, there is an answer, and beside an error it is nought.
func TestR1Any(t *testing.T) {
	s, count := source(17), map[bool]int{}
	edges := []float64{none, inf, -inf, math.MaxFloat64, past, api.MaxReal, -api.MaxReal, 0x1p39, 1, api.MinReal, tiny, 0, minus, -1}
	any := func() float64 { return edges[s.below(len(edges))] }
	anyFrame := func() api.Frame {
		if s.coin() {
			return s.frame(4)
		}
		f := at(any(), any())
		if s.below(4) == 0 {
			f.Turn = complex(any(), any())
		}
		return f
	}
	anyShape := func() api.Shape {
		w := api.Shape{Kind: uint8(s.below(5)), Radius: any()}
		for range s.below(10) {
			w.Points = append(w.Points, v(any(), any()))
		}
		if s.below(4) != 0 {
			return s.shape()
		}
		return w
	}
	for range 10000 {
		a, b, f, g, to, at := anyShape(), anyShape(), anyFrame(), anyFrame(), anyFrame(), any()
		part, is, e := impact.Time(a, b, f, g, to)
		if !(part >= 0 && part < 1) || part != 0 && !is || e != api.OK && (is || part != 0) {
			t.Fatalf("Time(%v, %v, %v, %v, %v) is %v %v %d", a, b, f, g, to, part, is, e)
		}
		count[e == api.OK]++
		if got, e := impact.Frame(f, to, at); e != api.OK && got != (api.Frame{}) {
			t.Fatalf("Frame(%v, %v, %v) is %v %d", f, to, at, got, e)
		}
		way, e := impact.Body(thing(uint8(s.below(5)), f, a), to, []api.Body{thing(api.Fixed, g, b)})
		if !(way >= 0 && way <= 1) || e != api.OK && way != 0 {
			t.Fatalf("Body is %v %d", way, e)
		}
	}
	enough(t, count, 500, true, false)
}

// TestR2Again: the same is answered again.
func TestR2Again(t *testing.T) {
	s := source(18)
	for range 100 {
		f, to := s.way(6)
		b, others := s.body(api.Free, f), s.others(4)
		part, e := impact.Body(b, to, others)
		isErr(t, e, api.OK, "Body", b, to, others)
		isBody(t, b, to, others, part)
	}
}
