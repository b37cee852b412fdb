package tree_test

import (
	"iter"
	"math"
	"slices"
	"testing"

	"tumble/api"
	"tumble/box"
	"tumble/grid"
	"tumble/sweep"
	"tumble/tree"
)

var (
	minus = math.Copysign(0, -1)
	none  = math.NaN()
	inf   = math.Inf(1)
)

const (
	most  = math.MaxFloat64
	least = math.SmallestNonzeroFloat64
)

func v(x, y float64) api.Vec { return api.Vec{X: x, Y: y} }

func four(a, b, c, d float64) api.Box { return api.Box{Low: v(a, b), High: v(c, d)} }

func floats(b api.Box) [4]float64 { return [4]float64{b.Low.X, b.Low.Y, b.High.X, b.High.Y} }

func above(a float64) float64 { return math.Nextafter(a, inf) }

func below(a float64) float64 { return math.Nextafter(a, -inf) }

func sameBits(a, b api.Box) bool {
	for i, f := range floats(a) {
		if math.Float64bits(f) != math.Float64bits(floats(b)[i]) {
			return false
		}
	}
	return true
}

// The oracle tells once more what chapter 5 says of boxes.
func mayBe(b api.Box) bool {
	for _, f := range floats(b) {
		if math.IsNaN(f) || math.IsInf(f, 0) {
			return false
		}
	}
	return b.Low.X <= b.High.X && b.Low.Y <= b.High.Y
}

func meet(a, b api.Box) bool {
	return mayBe(a) && mayBe(b) && a.Low.X <= b.High.X && b.Low.X <= a.High.X && a.Low.Y <= b.High.Y && b.Low.Y <= a.High.Y
}

func grown(b api.Box, by float64) api.Box {
	return four(b.Low.X-by, b.Low.Y-by, b.High.X+by, b.High.Y+by)
}

func liesIn(a, b api.Box) bool {
	return b.Low.X <= a.Low.X && b.Low.Y <= a.Low.Y && a.High.X <= b.High.X && a.High.Y <= b.High.Y
}

// lesser has minus nought below nought.
func lesser(a, b float64) float64 {
	if a < b || a == b && math.Signbit(a) {
		return a
	}
	return b
}

func greater(a, b float64) float64 { return -lesser(-a, -b) }

// wrongBoxes are such as may not be.
func wrongBoxes() []api.Box {
	return []api.Box{
		four(1, 0, 0, 1), four(0, 1, 1, 0), four(above(1), 0, 1, 1), four(0, least, 1, 0),
		four(none, 0, 1, 1), four(0, none, 1, 1), four(0, 0, none, 1), four(0, 0, 1, none),
		four(-inf, 0, 1, 1), four(0, -inf, 1, 1), four(0, 0, inf, 1), four(0, 0, 1, inf),
		four(-inf, -inf, inf, inf), four(none, none, none, none), four(inf, inf, inf, inf),
	}
}

func rightMargins() []float64 {
	return []float64{0, minus, least, 0x1p-30, 0.1, 0.5, 1, 1000, below(api.MaxReal), api.MaxReal}
}

func wrongMargins() []float64 {
	return []float64{-least, -1, -api.MaxReal, above(api.MaxReal), 0x1p41, most, -most, inf, -inf, none}
}

func newTree(t *testing.T, margin float64) *tree.Tree {
	t.Helper()
	x, e := tree.New(margin)
	if e != api.OK || x == nil {
		t.Fatalf("New(%v) is %v, %d", margin, x, e)
	}
	return x
}

// model keeps what a tree must keep, in a list, and holds boxes against one another one by one.
type model struct {
	margin float64
	kept   []api.Box
	live   []bool
	told   []api.Box // of what the kept ones were made
}

func (m *model) has(id int) bool { return 0 <= id && id < len(m.live) && m.live[id] }

func (m *model) length() (n int) {
	for _, is := range m.live {
		if is {
			n++
		}
	}
	return n
}

func (m *model) put(b api.Box) (int, api.Errno) {
	if !mayBe(b) {
		return 0, api.ErrBox
	}
	if m.length() == api.MaxNodes {
		return 0, api.ErrFull
	}
	id := slices.Index(m.live, false)
	if id < 0 {
		id = len(m.live)
		m.live, m.kept, m.told = append(m.live, false), append(m.kept, api.Box{}), append(m.told, api.Box{})
	}
	m.live[id], m.kept[id], m.told[id] = true, grown(b, m.margin), b
	return id, api.OK
}

func (m *model) take(id int) api.Errno {
	if !m.has(id) {
		return api.ErrNode
	}
	m.live[id], m.kept[id] = false, api.Box{}
	return api.OK
}

func (m *model) move(id int, b api.Box) (bool, api.Errno) {
	switch {
	case !m.has(id):
		return false, api.ErrNode
	case !mayBe(b):
		return false, api.ErrBox
	case liesIn(b, m.kept[id]):
		return false, api.OK
	}
	m.kept[id], m.told[id] = grown(b, m.margin), b
	return true, api.OK
}

func (m *model) numbers(is func(b api.Box) bool) (l []int) {
	for id, b := range m.kept {
		if m.live[id] && is(b) {
			l = append(l, id)
		}
	}
	return l
}

func (m *model) with(b api.Box) []int {
	return m.numbers(func(a api.Box) bool { return meet(a, b) })
}

func (m *model) pairs() (l [][2]int) {
	for id, a := range m.kept {
		for _, other := range m.with(a) {
			if m.live[id] && id < other {
				l = append(l, [2]int{id, other})
			}
		}
	}
	return l
}

// ray goes by box.Ray, as the promise names it.
func (m *model) ray(from, way api.Vec) []int {
	return m.numbers(func(b api.Box) bool { _, is := box.Ray(b, from, way); return is })
}

func (m *model) whole() (b api.Box, is bool) {
	for id, a := range m.kept {
		switch {
		case !m.live[id]:
		case !is:
			b, is = a, true
		default:
			b = four(lesser(a.Low.X, b.Low.X), lesser(a.Low.Y, b.Low.Y), greater(a.High.X, b.High.X), greater(a.High.Y, b.High.Y))
		}
	}
	return b, is
}

func isWith(t *testing.T, x *tree.Tree, b api.Box, want ...int) {
	t.Helper()
	if got, e := x.With(b); e != api.OK || !slices.Equal(got, want) {
		t.Fatalf("With(%v) is %v, %d, not %v", b, got, e, want)
	}
}

func isPairs(t *testing.T, x *tree.Tree, want ...[2]int) {
	t.Helper()
	if got, e := x.Pairs(); e != api.OK || !slices.Equal(got, want) {
		t.Fatalf("Pairs is %v, %d, not %v", got, e, want)
	}
}

func isRay(t *testing.T, x *tree.Tree, from, way api.Vec, want ...int) {
	t.Helper()
	if got := slices.Collect(x.Ray(from, way)); !slices.Equal(got, want) {
		t.Fatalf("Ray(%v, %v) is %v, not %v", from, way, got, want)
	}
}

func isWhole(t *testing.T, x *tree.Tree, want api.Box, is bool) {
	t.Helper()
	if got, ok := x.Whole(); ok != is || !sameBits(got, want) {
		t.Fatalf("Whole is %v, %v, not %v, %v", got, ok, want, is)
	}
}

func isBox(t *testing.T, x *tree.Tree, id int, want api.Box, wantE api.Errno) {
	t.Helper()
	if got, e := x.Box(id); e != wantE || !sameBits(got, want) {
		t.Fatalf("Box(%d) is %v, %d, not %v, %d", id, got, e, want, wantE)
	}
}

func isPut(t *testing.T, x *tree.Tree, b api.Box, want int, wantE api.Errno) {
	t.Helper()
	if got, e := x.Put(b); e != wantE || got != want {
		t.Fatalf("Put(%v) is %d, %d, not %d, %d", b, got, e, want, wantE)
	}
}

func isTake(t *testing.T, x *tree.Tree, id int, want api.Errno) {
	t.Helper()
	if e := x.Take(id); e != want {
		t.Fatalf("Take(%d) is %d, not %d", id, e, want)
	}
}

func isMove(t *testing.T, x *tree.Tree, id int, b api.Box, want bool, wantE api.Errno) {
	t.Helper()
	if got, e := x.Move(id, b); e != wantE || got != want {
		t.Fatalf("Move(%d, %v) is %v, %d, not %v, %d", id, b, got, e, want, wantE)
	}
}

// isHeight holds a tree's height to its bound.
func isHeight(t *testing.T, x *tree.Tree) {
	t.Helper()
	digits := 0
	for n := x.Len(); n > 0; n /= 2 {
		digits++
	}
	h := x.Height()
	if digits == 0 && h != 0 || digits > 0 && (h < 1 || h > 2*digits+1) {
		t.Fatalf("a tree of %d has the height %d", x.Len(), h)
	}
}

// isAs holds a tree against a model, number by number.
func isAs(t *testing.T, x *tree.Tree, m *model) {
	t.Helper()
	if x.Len() != m.length() {
		t.Fatalf("Len is %d, not %d", x.Len(), m.length())
	}
	for id := -1; id <= len(m.kept); id++ {
		if m.has(id) {
			isBox(t, x, id, m.kept[id], api.OK)
			isWith(t, x, m.kept[id], m.with(m.kept[id])...)
		} else {
			isBox(t, x, id, api.Box{}, api.ErrNode)
		}
	}
	whole, is := m.whole()
	isWhole(t, x, whole, is)
	isPairs(t, x, m.pairs()...)
	isHeight(t, x)
}

// enough tells of each kind whether it came up so often.
func enough[K comparable](t *testing.T, count map[K]int, least int, kinds ...K) {
	t.Helper()
	for _, k := range kinds {
		if count[k] < least {
			t.Errorf("too few of %v: %v", k, count)
		}
	}
}

// source makes floats from a rule of whole numbers: the same ones in each run.
type source uint64

func (s *source) next() uint64 {
	*s = *s*6364136223846793005 + 1442695040888963407
	return uint64(*s >> 31)
}

func (s *source) below(n int) int { return int(s.next() % uint64(n)) }

func (s *source) of(l ...float64) float64 { return l[s.below(len(l))] }

// plain has all its bits in use, and is from some 2^-20 to 2^20.
func (s *source) plain() float64 {
	whole := int64(s.next()<<20^s.next())&(1<<53-1) - 1<<52
	return math.Ldexp(float64(whole), s.below(40)-72)
}

// few are from few floats, so that ends often meet, noughts among them.
func (s *source) few() float64 { return s.of(-2, -1, minus, 0, 1, 2, 3) }

// edge is one at which orders and signs have their edges, such as no box may have among them.
func (s *source) edge() float64 {
	return s.of(none, -inf, -most, -1, -least, minus, 0, least, 1, above(1), most, inf)
}

// great is finite, but differences of two are not always.
func (s *source) great() float64 { return s.of(-1, 1) * math.Ldexp(most, -s.below(4)-s.below(2)*1000) }

func (s *source) box(part func() float64) api.Box { return four(part(), part(), part(), part()) }

// right has its ends in order; it may be, if its floats are finite.
func (s *source) right(part func() float64) api.Box {
	b := s.box(part)
	if b.Low.X > b.High.X {
		b.Low.X, b.High.X = b.High.X, b.Low.X
	}
	if b.Low.Y > b.High.Y {
		b.Low.Y, b.High.Y = b.High.Y, b.Low.Y
	}
	return b
}

// small lies in the plane such that some of many meet and some do not, on both sides of nought.
func (s *source) small() api.Box {
	x, y := float64(s.below(400)-200)/8, float64(s.below(400)-200)/8
	return four(x, y, x+float64(s.below(60))/8, y+float64(s.below(60))/8)
}

// maker makes boxes of one kind; some of some kinds may not be.
func (s *source) maker() func() api.Box {
	makers := []func() api.Box{
		func() api.Box { return s.right(s.few) },
		func() api.Box { return s.box(s.few) },
		func() api.Box { return s.right(s.edge) },
		func() api.Box { return s.right(s.plain) },
		func() api.Box { return s.right(s.great) },
		s.small, s.small, s.small,
	}
	return makers[s.below(len(makers))]
}

// number is mostly one that was given out, or one about the ends of those.
func (s *source) number(m *model) int {
	if s.below(8) == 0 {
		return []int{-1, len(m.live), len(m.live) + 1, math.MaxInt, math.MinInt}[s.below(5)]
	}
	return s.below(len(m.live) + 1)
}

// grow makes a tree and its model by puts, takes and moves, and holds each answer against the model's.
func grow(t *testing.T, s *source, calls int, count map[string]int) (*tree.Tree, *model) {
	t.Helper()
	m := &model{margin: s.of(rightMargins()...)}
	x := newTree(t, m.margin)
	one, puts := s.maker(), 2+s.below(6)
	for range calls {
		b := one()
		switch kind := s.below(8); {
		case kind < puts:
			id, e := m.put(b)
			isPut(t, x, b, id, e)
			if e == api.OK && id+1 < len(m.live) {
				count["a number again"]++
			}
			count["put"]++
		case kind%2 == 0:
			id := s.number(m)
			e := m.take(id)
			isTake(t, x, id, e)
			if e == api.OK {
				count["taken"]++
			} else {
				count["of nothing"]++
			}
		default:
			id := s.number(m)
			if s.below(3) == 0 && m.has(id) {
				b = grown(m.kept[id], s.of(-0.25, 0, 0.25))
			}
			is, e := m.move(id, b)
			isMove(t, x, id, b, is, e)
			switch {
			case is:
				count["moved"]++
			case e == api.OK:
				count["stays"]++
			case e == api.ErrBox:
				count["may not be"]++
			}
		}
		isHeight(t, x)
	}
	return x, m
}

// overTrees hands over trees of all sizes up to some 80, with their models.
func overTrees(t *testing.T, rounds int, f func(s *source, x *tree.Tree, m *model)) {
	t.Helper()
	s, count := source(15), map[string]int{}
	for range rounds {
		calls := s.below(12)
		if s.below(2) == 0 {
			calls = s.below(150)
		}
		x, m := grow(t, &s, calls, count)
		f(&s, x, m)
	}
	enough(t, count, rounds/4, "put", "a number again", "taken", "of nothing", "moved", "stays", "may not be")
}

func isEmpty(t *testing.T, x *tree.Tree) {
	t.Helper()
	isAs(t, x, &model{})
	isWith(t, x, four(-most, -most, most, most))
	isRay(t, x, v(0, 0), v(1, 1))
	isTake(t, x, 0, api.ErrNode)
	isMove(t, x, 0, four(0, 0, 1, 1), false, api.ErrNode)
}

func TestP15_1New(t *testing.T) {
	for _, margin := range rightMargins() {
		x := newTree(t, margin)
		isEmpty(t, x)
		isPut(t, x, four(1, 2, 3, 4), 0, api.OK)
		isBox(t, x, 0, grown(four(1, 2, 3, 4), margin), api.OK)
	}
	for _, margin := range wrongMargins() {
		if x, e := tree.New(margin); x != nil || e != api.ErrReal {
			t.Errorf("New(%v) is %v, %d", margin, x, e)
		}
	}
}

func TestP15_2Kept(t *testing.T) {
	// As Grow has it to the bit: noughts by either nought as a margin, and what is too great to grow.
	for _, margin := range rightMargins() {
		x := newTree(t, margin)
		s := source(2)
		for id := range 200 {
			b := s.right([]func() float64{s.few, s.plain, s.great}[id%3])
			isPut(t, x, b, id, api.OK)
			isBox(t, x, id, box.Grow(b, margin), api.OK)
			isBox(t, x, id, grown(b, margin), api.OK)
		}
	}
	x := newTree(t, 0)
	isPut(t, x, four(minus, 0, minus, 0), 0, api.OK)
	isBox(t, x, 0, four(minus, 0, 0, 0), api.OK)
	x = newTree(t, minus)
	isPut(t, x, four(minus, 0, minus, 0), 0, api.OK)
	isBox(t, x, 0, four(0, 0, minus, 0), api.OK)
}

func TestP15_2Put(t *testing.T) {
	x := newTree(t, 0.5)
	m := &model{margin: 0.5}
	for i := range 20 {
		b := four(float64(i), 0, float64(i), 1)
		for _, wrong := range wrongBoxes() {
			isPut(t, x, wrong, 0, api.ErrBox)
		}
		id, _ := m.put(b)
		isPut(t, x, b, id, api.OK)
		isAs(t, x, m)
	}
	// The least free number first, in whatever order they became free.
	for _, id := range []int{7, 3, 19, 0, 12} {
		isTake(t, x, id, api.OK)
	}
	for _, want := range []int{0, 3, 7, 12, 19, 20, 21} {
		isPut(t, x, four(1, 1, 1, 1), want, api.OK)
	}
	isTake(t, x, 5, api.OK)
	isPut(t, x, four(1, 1, 1, 1), 5, api.OK)
	isTake(t, x, 21, api.OK)
	isTake(t, x, 2, api.OK)
	isPut(t, x, four(1, 1, 1, 1), 2, api.OK)
	isTake(t, x, 1, api.OK)
	for _, want := range []int{1, 21, 22} {
		isPut(t, x, four(1, 1, 1, 1), want, api.OK)
	}
}

func TestP15_2Full(t *testing.T) {
	x := newTree(t, 0)
	one := four(0, 0, 1, 1)
	for id := range api.MaxNodes {
		isPut(t, x, one, id, api.OK)
	}
	isPut(t, x, one, 0, api.ErrFull)
	isPut(t, x, wrongBoxes()[0], 0, api.ErrBox)
	if x.Len() != api.MaxNodes {
		t.Errorf("Len is %d", x.Len())
	}
	isHeight(t, x)
	// A full tree is moved in, and a number that is free again is put to use.
	isMove(t, x, 77, four(5, 5, 6, 6), true, api.OK)
	isWith(t, x, four(5, 5, 5, 5), 77)
	for _, id := range []int{0, api.MaxNodes - 1, 4711} {
		isTake(t, x, id, api.OK)
		isPut(t, x, wrongBoxes()[0], 0, api.ErrBox)
		isPut(t, x, four(9, 9, 9, 9), id, api.OK)
		isPut(t, x, one, 0, api.ErrFull)
	}
	isWith(t, x, four(9, 9, 9, 9), 0, 4711, api.MaxNodes-1)
	for id := range api.MaxNodes {
		isTake(t, x, id, api.OK)
	}
	isEmpty(t, x)
	isPut(t, x, one, 0, api.OK)
}

func TestP15_2Take(t *testing.T) {
	x := newTree(t, 0)
	m := &model{}
	for i := range 9 {
		b := four(float64(i), 0, float64(i)+1.5, 1)
		m.put(b)
		x.Put(b)
	}
	for _, id := range []int{-1, math.MinInt, 9, 10, math.MaxInt, api.MaxNodes} {
		isTake(t, x, id, api.ErrNode)
		isMove(t, x, id, four(0, 0, 1, 1), false, api.ErrNode)
		isMove(t, x, id, four(1, 0, 0, 1), false, api.ErrNode)
		isBox(t, x, id, api.Box{}, api.ErrNode)
	}
	for _, id := range []int{4, 8, 0, 7, 1, 2, 6, 5, 3} {
		m.take(id)
		isTake(t, x, id, api.OK)
		isTake(t, x, id, api.ErrNode)
		isMove(t, x, id, four(0, 0, 1, 1), false, api.ErrNode)
		isMove(t, x, id, four(none, 0, 1, 1), false, api.ErrNode)
		isAs(t, x, m)
	}
	isEmpty(t, x)
}

func TestP15_2Move(t *testing.T) {
	x := newTree(t, 0.5)
	isPut(t, x, four(0, 0, 1, 1), 0, api.OK)
	isPut(t, x, four(9, 9, 9, 9), 1, api.OK)
	kept := four(-0.5, -0.5, 1.5, 1.5)
	// What lies in the kept box, its ends too, changes nothing.
	for _, b := range []api.Box{kept, four(0, 0, 1, 1), four(0.5, 0.5, 0.5, 0.5), four(-0.5, -0.5, -0.5, -0.5), four(1.5, -0.5, 1.5, 1.5)} {
		isMove(t, x, 0, b, false, api.OK)
		isBox(t, x, 0, kept, api.OK)
	}
	for _, b := range wrongBoxes() {
		isMove(t, x, 0, b, false, api.ErrBox)
		isBox(t, x, 0, kept, api.OK)
	}
	// A little beyond one end is enough, and so it is if it lies about the kept box.
	for _, b := range []api.Box{
		four(below(-0.5), 0, 1, 1), four(0, below(-0.5), 1, 1), four(0, 0, above(1.5), 1), four(0, 0, 1, above(1.5)),
		four(-1, -1, 2, 2), four(5, 5, 6, 6), four(-most, -most, most, most),
	} {
		isMove(t, x, 0, b, true, api.OK)
		isBox(t, x, 0, grown(b, 0.5), api.OK)
		isWith(t, x, four(9, 9, 9, 9), (&model{kept: []api.Box{grown(b, 0.5), four(8.5, 8.5, 9.5, 9.5)}, live: []bool{true, true}}).with(four(9, 9, 9, 9))...)
		isBox(t, x, 1, four(8.5, 8.5, 9.5, 9.5), api.OK)
		isMove(t, x, 0, four(0, 0, 0, 0), !liesIn(four(0, 0, 0, 0), grown(b, 0.5)), api.OK)
		isTake(t, x, 0, api.OK)
		isPut(t, x, four(0, 0, 1, 1), 0, api.OK)
	}
	// By no margin a box moves as soon as it is not in what it was; it does not shrink.
	x = newTree(t, 0)
	isPut(t, x, four(0, 0, 1, 1), 0, api.OK)
	isMove(t, x, 0, four(0.5, 0.5, 0.5, 0.5), false, api.OK)
	isMove(t, x, 0, four(minus, minus, 1, 1), false, api.OK)
	isBox(t, x, 0, four(0, 0, 1, 1), api.OK)
	isMove(t, x, 0, four(-least, 0, 1, 1), true, api.OK)
	isBox(t, x, 0, four(-least, 0, 1, 1), api.OK)
}

func TestP15_3WithAndPairs(t *testing.T) {
	count := map[string]int{}
	overTrees(t, 3000, func(s *source, x *tree.Tree, m *model) {
		isAs(t, x, m)
		one := s.maker()
		for range 8 {
			b := one()
			want := m.with(b)
			isWith(t, x, b, want...)
			switch {
			case !mayBe(b):
				count["may not be"]++
			case len(want) == 0:
				count["none"]++
			case len(want) == m.length():
				count["all"]++
			default:
				count["some"]++
			}
		}
		for _, b := range wrongBoxes() {
			isWith(t, x, b)
		}
	})
	enough(t, count, 1000, "may not be", "none", "all", "some")
}

func TestP15_3Ends(t *testing.T) {
	a, next := four(0, 0, 1, 1), above(1)
	for _, c := range []struct {
		b  api.Box
		is bool
	}{
		// Ends count, on each side and at the corners.
		{four(1, 0, 2, 1), true}, {four(-1, 0, 0, 1), true}, {four(0, 1, 1, 2), true}, {four(0, -1, 1, 0), true},
		{four(1, 1, 2, 2), true}, {four(-1, -1, 0, 0), true}, {four(1, -1, 2, 0), true}, {four(-1, 1, 0, 2), true},
		{four(next, 0, 2, 1), false}, {four(-1, 0, -least, 1), false}, {four(0, next, 1, 2), false}, {four(0, -1, 1, -least), false},
		// Noughts are alike.
		{four(-1, -1, minus, minus), true}, {four(minus, minus, minus, minus), true},
		// One in the other, one across the other, a line, a place.
		{four(0.25, 0.25, 0.5, 0.5), true}, {four(-9, -9, 9, 9), true}, {four(-9, 0.25, 9, 0.5), true}, {four(0.5, 0, 0.5, 1), true}, {a, true},
		{four(-most, -most, most, most), true}, {four(1, 1, most, most), true}, {four(-most, -most, -most, most), false},
		// Along one axis alone they lie over one another.
		{four(0, 5, 1, 6), false}, {four(5, 0, 6, 1), false},
	} {
		x := newTree(t, 0)
		isPut(t, x, a, 0, api.OK)
		isPut(t, x, c.b, 1, api.OK)
		if c.is {
			isPairs(t, x, [2]int{0, 1})
			isWith(t, x, a, 0, 1)
			isWith(t, x, c.b, 0, 1)
		} else {
			isPairs(t, x)
			isWith(t, x, a, 0)
			isWith(t, x, c.b, 1)
		}
	}
	// What is asked with has no margin, what is kept has one.
	x := newTree(t, 1)
	isPut(t, x, a, 0, api.OK)
	isPut(t, x, four(3, 0, 4, 1), 1, api.OK)
	isPut(t, x, four(7, 0, 8, 1), 2, api.OK)
	isWith(t, x, four(2, 2, 2, 2), 0, 1)
	isWith(t, x, four(above(2), 2, 4, 2), 1)
	isPairs(t, x, [2]int{0, 1})
}

// heaps are boxes one upon another, so many of each heap, the heaps apart.
func heaps(sizes ...int) (l []api.Box) {
	for at, n := range sizes {
		x := float64(4 * at)
		l = append(l, slices.Repeat([]api.Box{four(x, 0, x+1, 1)}, n)...)
	}
	return l
}

// treeOf has boxes by their numbers in a list.
func treeOf(t *testing.T, margin float64, l []api.Box) *tree.Tree {
	t.Helper()
	x := newTree(t, margin)
	for id, b := range l {
		isPut(t, x, b, id, api.OK)
	}
	return x
}

func TestP15_3ManyPairs(t *testing.T) {
	// 65341, 190, 3, 1 and 1 pairs: just as many as may be told.
	l := heaps(362, 20, 3, 2, 2)
	x := treeOf(t, 0.25, l)
	got, e := x.Pairs()
	m := &model{kept: l, live: slices.Repeat([]bool{true}, len(l))}
	if e != api.OK || len(got) != api.MaxPairs || !slices.Equal(got, m.pairs()) {
		t.Fatalf("Pairs has %d, %d", len(got), e)
	}
	isMany := func(x *tree.Tree) {
		t.Helper()
		if got, e := x.Pairs(); e != api.ErrMany || len(got) > 0 {
			t.Fatalf("Pairs has %d and tells %d", len(got), e)
		}
	}
	// One more box over one other, and away again.
	isPut(t, x, four(100, 0, 101, 1), len(l), api.OK)
	isPut(t, x, four(100, 0, 101, 1), len(l)+1, api.OK)
	isMany(x)
	isMove(t, x, len(l), four(200, 0, 200, 1), true, api.OK)
	isPairs(t, x, got...)
	for _, sizes := range [][]int{{2, 2, 2, 3, 20, 362}, {363}, {1, 363}, {1, 1, 400}, {api.MaxNodes}} {
		isMany(treeOf(t, 0, heaps(sizes...)))
	}
	// With tells however many.
	x = treeOf(t, 0, heaps(api.MaxNodes))
	if got, e := x.With(four(1, 1, 1, 1)); e != api.OK || len(got) != api.MaxNodes || !slices.IsSorted(got) {
		t.Errorf("With has %d, %d", len(got), e)
	}
}

// aim is a place or a way; wild tells whether it may be such as are not finite.
func (s *source) aim(wild bool) api.Vec {
	parts := []func() float64{s.few, s.plain, func() float64 { return float64(s.below(800)-400) / 8 }, func() float64 { return 0 }}
	if wild {
		parts = append(parts, s.edge, s.great)
	}
	return v(parts[s.below(len(parts))](), parts[s.below(len(parts))]())
}

func TestP15_4Ray(t *testing.T) {
	count := map[string]int{}
	overTrees(t, 3000, func(s *source, x *tree.Tree, m *model) {
		for i := range 16 {
			from, way := s.aim(i%2 == 0), s.aim(i%4 < 2)
			want := m.ray(from, way)
			isRay(t, x, from, way, want...)
			switch {
			case len(want) == 0:
				count["none"]++
			case len(want) == m.length():
				count["all"]++
			default:
				count["some"]++
			}
			if len(want) > 0 && (math.IsInf(way.X, 0) || math.IsInf(way.Y, 0)) {
				count["endless"]++
			}
		}
	})
	enough(t, count, 1000, "none", "all", "some")
	enough(t, count, 500, "endless")
}

func TestP15_4FarEnds(t *testing.T) {
	// The way is infinite: of a box whose end is too far off for the difference it is no number how much of the way lies ahead, of the small ones it is nought.
	l := []api.Box{four(0, 0, 1, 1), four(-most, 0, -most, 1), four(2, 0, 3, 1), four(-most, 0, most, 1), four(0, -most, 1, most), four(most, 0, most, 1)}
	x := treeOf(t, 0, l)
	m := &model{kept: l, live: slices.Repeat([]bool{true}, len(l))}
	met := 0
	for _, from := range []api.Vec{v(0.5, 0.5), v(most, 0.5), v(-most, 0.5), v(2.5, most), v(0x1p1000, -most), v(0x1p1000, 0)} {
		for _, way := range []api.Vec{v(inf, 0), v(-inf, 0), v(0, inf), v(inf, inf), v(inf, none), v(most, inf), v(-inf, least), v(most, most), v(-most, 0)} {
			met += len(m.ray(from, way))
			isRay(t, x, from, way, m.ray(from, way)...)
		}
	}
	if met < 50 {
		t.Errorf("only %d are met", met)
	}
	isRay(t, x, v(most, 0.5), v(-inf, 0), 0, 2, 4, 5)
	for _, wild := range []float64{none, inf, -inf} {
		for _, way := range []api.Vec{v(1, 0), v(0, 0), v(inf, inf), v(none, none)} {
			isRay(t, x, v(wild, 0.5), way)
			isRay(t, x, v(0.5, wild), way)
		}
	}
}

func TestP15_4AsItWas(t *testing.T) {
	var l []api.Box
	for i := range 40 {
		l = append(l, four(float64(i), 0, float64(i)+0.5, 1))
	}
	x := treeOf(t, 0, l)
	from, way := v(4.75, 0.5), v(9.5, 0)
	seq := x.Ray(from, way)
	want := []int{5, 6, 7, 8, 9, 10, 11, 12, 13, 14}
	again := func(when string) {
		t.Helper()
		for range 2 {
			if got := slices.Collect(seq); !slices.Equal(got, want) {
				t.Fatalf("%s Ray goes through %v", when, got)
			}
		}
	}
	again("at first")
	isTake(t, x, 5, api.OK)
	isMove(t, x, 7, four(-50, 0, -50, 0), true, api.OK)
	isPut(t, x, four(6, 0, 7, 1), 5, api.OK)
	isPut(t, x, four(6, 0, 7, 1), 40, api.OK)
	again("behind changes")
	for id := range 41 {
		isTake(t, x, id, api.OK)
	}
	again("of a tree that is empty by now")
	isRay(t, x, from, way)
	// One that was asked of an empty tree stays so.
	seq, want = x.Ray(from, way), nil
	isPut(t, x, four(6, 0, 7, 1), 0, api.OK)
	again("of a tree that was empty then")
}

func TestP15_4Left(t *testing.T) {
	x := treeOf(t, 0, heaps(9))
	seq := x.Ray(v(-1, 0.5), v(9, 0))
	for stop := range 9 {
		var got []int
		for id := range seq {
			got = append(got, id)
			if id == stop {
				break
			}
		}
		if len(got) != stop+1 || got[stop] != stop {
			t.Errorf("left at %d it went through %v", stop, got)
		}
	}
	// Within one another, each goes by itself.
	n := 0
	for a := range seq {
		for b := range seq {
			if n != 9*a+b {
				t.Fatalf("%d and %d at the step %d", a, b, n)
			}
			n++
		}
	}
	if n != 81 {
		t.Errorf("%d steps", n)
	}
	next, stop := iter.Pull(seq)
	defer stop()
	for want := range 9 {
		if id, ok := next(); id != want || !ok {
			t.Errorf("pulled %d, %v, not %d", id, ok, want)
		}
	}
	if id, ok := next(); ok {
		t.Errorf("pulled %d behind the last one", id)
	}
	// The tree may be changed on the way.
	for id := range seq {
		isTake(t, x, id, api.OK)
		isPut(t, x, four(float64(50+id), 50, 60, 60), id, api.OK)
		isPut(t, x, four(0, 0, 1, 1), 9, api.OK)
		isTake(t, x, 9, api.OK)
	}
	isRay(t, x, v(-1, 0.5), v(9, 0))
	isWith(t, x, four(60, 60, 60, 60), 0, 1, 2, 3, 4, 5, 6, 7, 8)
}

func TestP15_5LenAndWhole(t *testing.T) {
	overTrees(t, 1000, func(s *source, x *tree.Tree, m *model) {
		if x.Len() != m.length() {
			t.Fatalf("Len is %d, not %d", x.Len(), m.length())
		}
		whole, is := m.whole()
		isWhole(t, x, whole, is)
		// Down to nothing, one after the other.
		for x.Len() > 0 {
			id := s.below(len(m.live))
			isTake(t, x, id, m.take(id))
			whole, is := m.whole()
			isWhole(t, x, whole, is)
			isHeight(t, x)
		}
		isEmpty(t, x)
	})
	// Noughts: minus nought is the least, nought the greatest one, in either order.
	for _, l := range [][]api.Box{{four(0, minus, 0, 0), four(minus, 0, 0, 0)}, {four(minus, 0, 0, 0), four(0, minus, 0, 0)}} {
		x := treeOf(t, 0, l)
		isWhole(t, x, four(minus, minus, 0, 0), true)
		isTake(t, x, 0, api.OK)
		isWhole(t, x, l[1], true)
	}
	l := []api.Box{four(0, 0, minus, minus), four(minus, 0, 0, minus), four(0, 0, minus, 0)}
	x := treeOf(t, minus, l)
	m := &model{margin: minus}
	for _, b := range l {
		m.put(b)
	}
	isAs(t, x, m)
}

// orders are ways in which the boxes of a full tree may come.
func orders() map[string]func(s *source, i int) api.Box {
	at := func(x, y float64) api.Box { return four(x, y, x+1, y+1) }
	return map[string]func(s *source, i int) api.Box{
		"up":     func(_ *source, i int) api.Box { return at(float64(2*i), float64(2*i)) },
		"down":   func(_ *source, i int) api.Box { return at(float64(-2*i), 0) },
		"out":    func(_ *source, i int) api.Box { return at(float64(2*i*(i%2*2-1)), 0) },
		"column": func(_ *source, i int) api.Box { return four(-9e9, float64(2*i), 9e9, float64(2*i)) },
		"random": func(s *source, _ int) api.Box { return at(float64(s.below(1<<20)), float64(s.below(1<<20))) },
		"doubling": func(_ *source, i int) api.Box {
			f := math.Ldexp(1+float64(i/1000), i%1000-500)
			return four(f, f, f, f)
		},
		"one":    func(*source, int) api.Box { return at(0, 0) },
		"nested": func(_ *source, i int) api.Box { f := float64(i); return four(-f, -f, f, f) },
		"great":  func(s *source, _ int) api.Box { return s.right(s.great) },
	}
}

func TestP15_5Height(t *testing.T) {
	for name, one := range orders() {
		s := source(5)
		x := newTree(t, 0)
		if x.Height() != 0 {
			t.Fatalf("the height of nothing is %d", x.Height())
		}
		for i := range api.MaxNodes {
			x.Put(one(&s, i))
			isHeight(t, x)
		}
		if x.Len() != api.MaxNodes {
			t.Fatalf("%s: %d boxes", name, x.Len())
		}
		// Moved and taken from one end, so that what is left lies on one side.
		for i := range api.MaxNodes / 2 {
			x.Move(i, one(&s, i+api.MaxNodes))
			isHeight(t, x)
		}
		for i := range api.MaxNodes {
			isTake(t, x, i, api.OK)
			isHeight(t, x)
		}
		isEmpty(t, x)
	}
}

func TestP15_5HeightOfTaken(t *testing.T) {
	// All but every 64th, in rising order, and the other way round.
	for _, down := range []bool{false, true} {
		x := newTree(t, 0)
		for i := range 1 << 12 {
			isPut(t, x, four(float64(2*i), 0, float64(2*i), 0), i, api.OK)
		}
		for i := range 1 << 12 {
			if down {
				i = 1<<12 - 1 - i
			}
			if i%64 != 0 {
				isTake(t, x, i, api.OK)
				isHeight(t, x)
			}
		}
		isWhole(t, x, four(0, 0, 2*4032, 0), true)
	}
}

func TestP15_6Memory(t *testing.T) {
	overTrees(t, 500, func(s *source, x *tree.Tree, m *model) {
		b := four(-9, -9, 9, 9)
		seq := x.Ray(v(-9, -9), v(18, 18))
		// What is answered may be written over, its spare room too.
		for range 2 {
			with, _ := x.With(b)
			pairs, _ := x.Pairs()
			other, _ := x.With(b)
			clear(with[:cap(with)])
			if !slices.Equal(other, m.with(b)) {
				t.Fatalf("two answers of With share memory")
			}
			clear(other[:cap(other)])
			clear(pairs[:cap(pairs)])
			got := slices.Collect(seq)
			clear(got[:cap(got)])
			isAs(t, x, m)
			isRay(t, x, v(-9, -9), v(18, 18), m.ray(v(-9, -9), v(18, 18))...)
		}
	})
}

func TestP15_6TwoTrees(t *testing.T) {
	s := source(6)
	for range 200 {
		var trees [2]*tree.Tree
		models := [2]*model{{margin: 0}, {margin: 0.5}}
		for i, m := range models {
			trees[i] = newTree(t, m.margin)
		}
		// Changed by turns, each keeps its own.
		for range 60 {
			i, b := s.below(2), s.small()
			x, m := trees[i], models[i]
			switch id := s.number(m); s.below(4) {
			case 0:
				isTake(t, x, id, m.take(id))
			case 1:
				is, e := m.move(id, b)
				isMove(t, x, id, b, is, e)
			default:
				id, e := m.put(b)
				isPut(t, x, b, id, e)
			}
		}
		isAs(t, trees[0], models[0])
		isAs(t, trees[1], models[1])
	}
}

// isNone: a tree that is none answers ErrNil, ahead of all else, and zero values.
func isNone(t *testing.T, x *tree.Tree) {
	t.Helper()
	for _, b := range append(wrongBoxes(), four(0, 0, 1, 1)) {
		isPut(t, x, b, 0, api.ErrNil)
		for _, id := range []int{-1, 0, 1, math.MaxInt} {
			isMove(t, x, id, b, false, api.ErrNil)
			isTake(t, x, id, api.ErrNil)
			isBox(t, x, id, api.Box{}, api.ErrNil)
		}
		if l, e := x.With(b); len(l) > 0 || e != api.ErrNil {
			t.Errorf("With is %v, %d", l, e)
		}
	}
	if l, e := x.Pairs(); len(l) > 0 || e != api.ErrNil {
		t.Errorf("Pairs is %v, %d", l, e)
	}
	if x.Ray(v(0, 0), v(1, 1)) == nil {
		t.Error("Ray is nil")
	}
	isRay(t, x, v(-5, 0.5), v(20, 0))
	isWhole(t, x, api.Box{}, false)
	if x.Len() != 0 || x.Height() != 0 {
		t.Errorf("Len is %d, Height %d", x.Len(), x.Height())
	}
}

func TestNone(t *testing.T) {
	isNone(t, nil)
	isNone(t, &tree.Tree{})
	isNone(t, new(tree.Tree))
	// No call made a copy; what is done to it does nothing to the tree.
	x := treeOf(t, 0, heaps(3))
	twin := *x
	isNone(t, &twin)
	isAs(t, x, &model{kept: heaps(3), live: []bool{true, true, true}})
	refused, _ := tree.New(-1)
	isNone(t, refused)
}

func TestP15_7NoTrace(t *testing.T) {
	overTrees(t, 1500, func(s *source, x *tree.Tree, m *model) {
		// Another tree comes to the same kept boxes by another history: all numbers are put, each is moved there or taken, in another order.
		y := newTree(t, m.margin)
		for id := range m.live {
			isPut(t, y, s.small(), id, api.OK)
		}
		order := make([]int, len(m.live))
		for i := range order {
			k := s.below(i + 1)
			order[i], order[k] = order[k], i
		}
		for _, id := range order {
			if m.live[id] {
				// By way of a place far off: from where it was it might not have to move.
				away := four(most, most, most, most)
				isMove(t, y, id, away, true, api.OK)
				isMove(t, y, id, m.told[id], m.told[id] != away, api.OK)
				isBox(t, y, id, m.kept[id], api.OK)
			} else {
				isTake(t, y, id, api.OK)
			}
		}
		if x.Len() != y.Len() {
			t.Fatalf("Len is %d and %d", x.Len(), y.Len())
		}
		pairs, e := x.Pairs()
		if e != api.OK {
			t.Fatalf("Pairs tells %d", e)
		}
		isPairs(t, y, pairs...)
		whole, is := x.Whole()
		isWhole(t, y, whole, is)
		one := s.maker()
		for range 8 {
			b, from, way := one(), s.aim(true), s.aim(true)
			with, _ := x.With(b)
			isWith(t, y, b, with...)
			isRay(t, y, from, way, slices.Collect(x.Ray(from, way))...)
		}
	})
}

func TestP15_7AsOthersFindThem(t *testing.T) {
	overTrees(t, 1500, func(s *source, x *tree.Tree, m *model) {
		// A free number has a box that may not be: it meets nothing by sorting and by cells either.
		l := slices.Clone(m.kept)
		for id := range l {
			if !m.live[id] {
				l[id] = four(none, none, none, none)
			}
		}
		bySorting, e := sweep.Pairs(l)
		if e != api.OK {
			t.Fatalf("sweep.Pairs tells %d", e)
		}
		isPairs(t, x, bySorting...)
		byCells, e := grid.Pairs(l, s.of(0.5, 1, 8))
		if e != api.OK {
			t.Fatalf("grid.Pairs tells %d", e)
		}
		isPairs(t, x, byCells...)
		b := s.maker()()
		with, _ := sweep.With(l, b)
		isWith(t, x, b, with...)
		// A box lies over its own kept box.
		if id, e := x.Put(b); e == api.OK {
			if with, _ := x.With(b); !slices.Contains(with, id) {
				t.Fatalf("With(%v) is %v without its own number %d", b, with, id)
			}
		}
	})
}

func TestP15_7Longest(t *testing.T) {
	s := source(7)
	var l []api.Box
	for range api.MaxNodes {
		x, y := float64(s.below(1<<16))/16, float64(s.below(1<<16))/16
		l = append(l, four(x, y, x+float64(s.below(256))/16, y+float64(s.below(256))/16))
	}
	x := treeOf(t, 0, l)
	want, e := sweep.Pairs(l)
	if e != api.OK || len(want) < 1000 {
		t.Fatalf("sweep.Pairs has %d, %d", len(want), e)
	}
	isPairs(t, x, want...)
	for range 200 {
		b := l[s.below(len(l))]
		with, _ := sweep.With(l, b)
		isWith(t, x, b, with...)
	}
}

func TestExamples(t *testing.T) {
	x := newTree(t, 0.5)
	for i, b := range []api.Box{four(0, 0, 1, 1), four(3, 0, 4, 1), four(1.5, 0, 2, 1)} {
		isPut(t, x, b, i, api.OK)
	}
	if x.Len() != 3 {
		t.Errorf("Len is %d", x.Len())
	}
	isBox(t, x, 0, four(-0.5, -0.5, 1.5, 1.5), api.OK)
	isWhole(t, x, four(-0.5, -0.5, 4.5, 1.5), true)
	isWith(t, x, four(1.2, 0, 1.4, 0), 0, 2)
	isPairs(t, x, [2]int{0, 2}, [2]int{1, 2})
	isMove(t, x, 0, four(0.1, 0, 1.4, 1), false, api.OK)
	isMove(t, x, 0, four(0, 0, 2, 1), true, api.OK)
	isBox(t, x, 0, four(-0.5, -0.5, 2.5, 1.5), api.OK)
	isTake(t, x, 1, api.OK)
	isTake(t, x, 1, api.ErrNode)
	isPut(t, x, four(9, 9, 9, 9), 1, api.OK)
	isWith(t, x, four(1, 0, 0, 1))
	isRay(t, x, v(-5, 0.5), v(20, 0), 0, 2)
	isPut(t, x, four(1, 0, 0, 1), 0, api.ErrBox)
	isMove(t, x, 7, four(1, 0, 0, 1), false, api.ErrNode)
	isMove(t, x, 0, four(1, 0, 0, 1), false, api.ErrBox)
	if y, e := tree.New(-1); y != nil || e != api.ErrReal {
		t.Errorf("New(-1) is %v, %d", y, e)
	}
	y := newTree(t, 0.5)
	isPut(t, y, four(0, 0, 1, 1), 0, api.OK)
	if h := y.Height(); h < 1 || h > 3 {
		t.Errorf("the height of one box is %d", h)
	}
}
