package pairs_test

import (
	"math"
	"slices"
	"testing"

	"tumble/api"
	"tumble/shape"
)

var (
	minus = math.Copysign(0, -1)
	none  = math.NaN()
	inf   = math.Inf(1)
	past  = math.Nextafter(api.MaxReal, inf)
	most  = math.MaxFloat64
)

const (
	leastInt = math.MinInt
	mostInt  = math.MaxInt
)

func v(x, y float64) api.Vec { return api.Vec{X: x, Y: y} }

func pair(a, partA, b, partB int) api.Pair {
	return api.Pair{A: a, PartA: partA, B: b, PartB: partB}
}

func disc(radius, x, y float64) api.Shape {
	return api.Shape{Kind: api.Circle, Radius: radius, Points: []api.Vec{v(x, y)}}
}

func pill(radius, x, y, toX, toY float64) api.Shape {
	return api.Shape{Kind: api.Capsule, Radius: radius, Points: []api.Vec{v(x, y), v(toX, toY)}}
}

func rectangle(x, y, toX, toY float64) api.Shape {
	return api.Shape{Kind: api.Polygon, Points: []api.Vec{v(x, y), v(toX, y), v(toX, toY), v(x, toY)}}
}

// part is one that may touch all others like it.
func part(s api.Shape) api.Part { return api.Part{Shape: s, Density: 1, Layer: 1, Mask: 1} }

// thing is a body at a place, not turned.
func thing(kind uint8, x, y float64, l ...api.Part) api.Body {
	return api.Body{Kind: kind, Frame: api.Frame{At: v(x, y), Turn: 1}, Parts: l}
}

// ball is the chapter's B and F.
func ball(kind uint8, x float64) api.Body { return thing(kind, x, 0, part(disc(1, 0, 0))) }

func free(x float64) api.Body { return ball(api.Free, x) }

func fixed(x float64) api.Body { return ball(api.Fixed, x) }

// slots are live ones, but of the zero body a free one.
func slots(l ...api.Body) []api.Slot {
	s := make([]api.Slot, len(l))
	for i, b := range l {
		s[i] = api.Slot{Use: uint32(i + 1), Live: b.Kind != 0, Body: b}
	}
	return s
}

// touching is a touch that may be, of one point with some impulse.
func touching(p api.Pair) api.Touch {
	return api.Touch{Pair: p, Normal: v(0, 1), Points: []api.Point{{At: v(1, 2), Depth: 0.5, Push: 3, Drag: -2}}}
}

func touchings(l ...api.Pair) []api.Touch {
	t := make([]api.Touch, len(l))
	for i, p := range l {
		t[i] = touching(p)
	}
	return t
}

// manyTouches are so many in order.
func manyTouches(n int) []api.Touch {
	l := make([]api.Touch, n)
	for i := range l {
		l[i] = touching(pair(i/8, i%8, i/8+1, 0))
	}
	return l
}

// same is told by bits.
func same(a, b float64) bool {
	if math.IsNaN(a) || math.IsNaN(b) {
		return math.IsNaN(a) && math.IsNaN(b)
	}
	return math.Float64bits(a) == math.Float64bits(b)
}

func sameVec(a, b api.Vec) bool { return same(a.X, b.X) && same(a.Y, b.Y) }

func samePoint(a, b api.Point) bool {
	return sameVec(a.At, b.At) && same(a.Depth, b.Depth) && a.ID == b.ID && same(a.Push, b.Push) && same(a.Drag, b.Drag)
}

func sameTouch(a, b api.Touch) bool {
	return a.Pair == b.Pair && a.Sensor == b.Sensor && sameVec(a.Normal, b.Normal) && slices.EqualFunc(a.Points, b.Points, samePoint)
}

func samePart(a, b api.Part) bool {
	return a.Shape.Kind == b.Shape.Kind && same(a.Shape.Radius, b.Shape.Radius) && slices.EqualFunc(a.Shape.Points, b.Shape.Points, sameVec) &&
		same(a.Density, b.Density) && same(a.Friction, b.Friction) && same(a.Bounce, b.Bounce) && a.Sensor == b.Sensor && a.Layer == b.Layer && a.Mask == b.Mask
}

func sameBody(a, b api.Body) bool {
	return a.Kind == b.Kind && sameVec(a.Frame.At, b.Frame.At) && same(real(a.Frame.Turn), real(b.Frame.Turn)) && same(imag(a.Frame.Turn), imag(b.Frame.Turn)) &&
		sameVec(a.Speed, b.Speed) && same(a.Spin, b.Spin) && sameVec(a.Force, b.Force) && same(a.Torque, b.Torque) &&
		same(a.Damp, b.Damp) && same(a.SpinDamp, b.SpinDamp) && slices.EqualFunc(a.Parts, b.Parts, samePart) && a.Asleep == b.Asleep && a.Calm == b.Calm && a.Bullet == b.Bullet
}

func sameSlot(a, b api.Slot) bool {
	return a.Use == b.Use && a.Live == b.Live && sameBody(a.Body, b.Body)
}

// bodyCopy, slotsCopy and touchesCopy share nothing with what they are copies of.
func bodyCopy(b api.Body) api.Body {
	b.Parts = slices.Clone(b.Parts)
	for i := range b.Parts {
		b.Parts[i].Shape.Points = slices.Clone(b.Parts[i].Shape.Points)
	}
	return b
}

func slotsCopy(l []api.Slot) []api.Slot {
	l = slices.Clone(l)
	for i := range l {
		l[i].Body = bodyCopy(l[i].Body)
	}
	return l
}

func touchesCopy(l []api.Touch) []api.Touch {
	l = slices.Clone(l)
	for i := range l {
		l[i].Points = slices.Clone(l[i].Points)
	}
	return l
}

func isErr(t *testing.T, got, want api.Errno, call string, args ...any) {
	t.Helper()
	if got != want {
		t.Fatalf("%s%v tells %d, not %d", call, args, got, want)
	}
}

// enough tells of each kind whether it came up so often.
func enough[K comparable](t *testing.T, count map[K]int, least int, kinds ...K) {
	t.Helper()
	for _, k := range kinds {
		if count[k] < least {
			t.Errorf("too few of %v: %v", k, count)
		}
	}
}

// source makes things from a rule of whole numbers: the same ones in each run.
type source uint64

func (s *source) next() uint64 {
	*s = *s*6364136223846793005 + 1442695040888963407
	return uint64(*s >> 31)
}

func (s *source) below(n int) int { return int(s.next() % uint64(n)) }

// part is from 0 to 1.
func (s *source) part() float64 { return float64(s.next()&(1<<30-1)) / (1 << 30) }

// about is from -far to far: every third time one of few floats, so that ends meet.
func (s *source) about(far float64) float64 {
	if s.below(3) == 0 {
		return far * []float64{-1, -0.5, minus, 0, 0.5, 1}[s.below(6)]
	}
	return far * (2*s.part() - 1)
}

func (s *source) place(far float64) api.Vec { return v(s.about(far), s.about(far)) }

func (s *source) turn() complex128 {
	if s.below(2) == 0 {
		return []complex128{1, -1, 1i, -1i, 0.6 + 0.8i, -0.8 + 0.6i}[s.below(6)]
	}
	sin, cos := math.Sincos(2 * math.Pi * s.part())
	return complex(cos, sin)
}

// ring are points of a circle, rising by their angles: most often a polygon.
func (s *source) ring(n int) []api.Vec {
	middle, far := s.place(2), 0.25+s.part()
	angles := make([]float64, n)
	for i := range angles {
		angles[i] = s.part() * 2 * math.Pi
	}
	slices.Sort(angles)
	l := make([]api.Vec, n)
	for i, a := range angles {
		l[i] = v(middle.X+far*math.Cos(a), middle.Y+far*math.Sin(a))
	}
	return l
}

// shape is one that may be.
func (s *source) shape() api.Shape {
	w := disc(0.25+s.part(), s.about(2), s.about(2))
	switch s.below(4) {
	case 0:
		w.Kind, w.Points = api.Capsule, append(w.Points, s.place(2))
	case 1:
		w = api.Shape{Kind: api.Polygon, Points: s.ring(3 + s.below(6))}
	case 2:
		w = rectangle(-0.5, -0.5, 0.5, 0.5)
	}
	if shape.Check(w) != api.OK {
		return rectangle(0, 0, 1, 2)
	}
	return w
}

// bits agree with one another more often than not.
func (s *source) bits() uint16 {
	if s.below(2) == 0 {
		return 1<<16 - 1
	}
	return []uint16{0, 1, 2, 3, 1 << 15, 1<<15 | 1}[s.below(6)]
}

// parts have no sensor first, so that they weigh something.
func (s *source) parts() []api.Part {
	l := make([]api.Part, 1+s.below(3)*s.below(3))
	if s.below(8) == 0 {
		l = make([]api.Part, api.MaxParts)
	}
	for i := range l {
		l[i] = api.Part{Shape: s.shape(), Density: 0.5 + s.part(), Friction: s.part(), Bounce: s.part(), Sensor: i > 0 && s.below(3) == 0, Layer: s.bits(), Mask: s.bits()}
	}
	return l
}

// body is one that may be kept, not farther from home than that.
func (s *source) body(far float64) api.Body {
	b := api.Body{Kind: uint8(1 + s.below(3)), Frame: api.Frame{At: s.place(far), Turn: s.turn()}, Parts: s.parts(), Bullet: s.below(2) == 0}
	if b.Kind != api.Fixed {
		b.Speed, b.Spin, b.Force, b.Torque = s.place(9), s.about(9), s.place(9), s.about(9)
	}
	b.Asleep = b.Kind == api.Free && s.below(3) == 0
	return b
}

// motion are pointers to those floats of a body that may be any in a world; the turn's are set by setTurn. From the sixth on they make no body wild.
func motion(b *api.Body) []*float64 {
	return []*float64{&b.Frame.At.X, &b.Frame.At.Y, &b.Speed.X, &b.Speed.Y, &b.Spin, &b.Force.X, &b.Force.Y, &b.Torque}
}

func setTurn(b *api.Body, i int, f float64) {
	if i == 0 {
		b.Frame.Turn = complex(f, imag(b.Frame.Turn))
	} else {
		b.Frame.Turn = complex(real(b.Frame.Turn), f)
	}
}

// worldly is a body as a world may have it: floats of its motion may be any.
func (s *source) worldly(far float64) api.Body {
	b := s.body(far)
	if s.below(4) != 0 {
		return b
	}
	f := []float64{none, inf, -inf, past, -past, most, -most, api.MaxReal, 0x1p30, 2, 0}[s.below(11)]
	if i := s.below(10); i < 8 {
		*motion(&b)[i] = f
	} else {
		setTurn(&b, i-8, f)
	}
	return b
}

// spoil makes something of a body wrong: it may not be kept any more. One without parts is wrong as it is.
func (s *source) spoil(b *api.Body) {
	if len(b.Parts) == 0 {
		return
	}
	p := &b.Parts[s.below(len(b.Parts))]
	switch s.below(9) {
	case 0:
		b.Kind = []uint8{0, 4, 255}[s.below(3)]
	case 1:
		b.Damp = []float64{-1, none, inf, past}[s.below(4)]
	case 2:
		b.Calm = []int{leastInt, -1, 1<<53 + 1}[s.below(3)]
	case 3:
		b.Parts = make([]api.Part, []int{0, api.MaxParts + 1}[s.below(2)])
	case 4:
		p.Shape.Kind = []uint8{0, 4}[s.below(2)]
	case 5:
		p.Shape.Points = append(slices.Clone(p.Shape.Points), make([]api.Vec, 9)...)
	case 6:
		p.Friction = []float64{-1, none, past}[s.below(3)]
	case 7:
		b.Kind = api.Free
		for i := range b.Parts {
			b.Parts[i].Density = 0
		}
	case 8:
		b.Asleep, b.Kind = true, []uint8{api.Fixed, api.Moved}[s.below(2)]
	}
}

// slots are of a world; what lies in those that are not live is anything, to count for nothing.
func (s *source) slots(n int, far float64) []api.Slot {
	l := make([]api.Slot, n)
	for i := range l {
		l[i] = api.Slot{Use: uint32(s.below(3)), Live: s.below(5) != 0, Body: s.worldly(far)}
		if !l[i].Live {
			s.spoil(&l[i].Body)
		}
	}
	return l
}

// moved is a world in which some bodies lie elsewhere.
func (s *source) moved(l []api.Slot) []api.Slot {
	l = slotsCopy(l)
	for i := range l {
		if l[i].Live && s.below(2) == 0 {
			at := &l[i].Body.Frame.At
			at.X, at.Y = at.X+s.about(0.5), at.Y+s.about(0.5)
		}
	}
	return l
}

// scaled is a world whose lengths are so many times as great; what it weighs is not asked.
func scaled(l []api.Slot, by float64) []api.Slot {
	l = slotsCopy(l)
	for _, x := range l {
		for i := range x.Body.Parts {
			p := &x.Body.Parts[i]
			p.Shape.Radius *= by
			for k, at := range p.Shape.Points {
				p.Shape.Points[k] = v(at.X*by, at.Y*by)
			}
		}
	}
	for i := range l {
		at := &l[i].Body.Frame.At
		at.X, at.Y = at.X*by, at.Y*by
	}
	return l
}

// pushed are touches with impulses.
func (s *source) pushed(l []api.Touch) []api.Touch {
	l = touchesCopy(l)
	for _, t := range l {
		for i := range t.Points {
			t.Points[i].Push, t.Points[i].Drag = s.about(9), s.about(api.MaxReal)
		}
	}
	return l
}

// pair is one that may be, of few numbers.
func (s *source) pair() api.Pair {
	p := pair(s.below(4), s.below(3), s.below(4), s.below(3))
	if p.A == p.B {
		p.B = p.A + 1
	}
	return p
}

// row are touches in order.
func (s *source) row(n int) []api.Touch {
	var l []api.Touch
	for range n {
		p := s.pair()
		at := slices.IndexFunc(l, func(t api.Touch) bool { return !ahead(t.Pair, p) })
		switch {
		case at < 0:
			l = append(l, touching(p))
		case l[at].Pair != p:
			l = slices.Insert(l, at, touching(p))
		}
	}
	return l
}
