package grid_test

import (
	"math"
	"math/big"
	"slices"
	"testing"
	"time"

	"tumble/api"
	"tumble/grid"
	"tumble/sweep"
)

var (
	minus = math.Copysign(0, -1)
	none  = math.NaN()
	inf   = math.Inf(1)
)

const (
	most  = math.MaxFloat64
	least = math.SmallestNonzeroFloat64
)

func v(x, y float64) api.Vec { return api.Vec{X: x, Y: y} }

func four(a, b, c, d float64) api.Box { return api.Box{Low: v(a, b), High: v(c, d)} }

func floats(b api.Box) [4]float64 { return [4]float64{b.Low.X, b.Low.Y, b.High.X, b.High.Y} }

func above(a float64) float64 { return math.Nextafter(a, inf) }

func below(a float64) float64 { return math.Nextafter(a, -inf) }

// rightWidths are such as may be, the least and the greatest one among them, powers of two and others.
func rightWidths() []float64 {
	return []float64{api.MinReal, above(api.MinReal), 0.1, 0.25, 1, 1.7, 2, math.Pi, 8, 1000, 0x1p30, below(api.MaxReal), api.MaxReal}
}

func wrongWidths() []float64 {
	return []float64{0, minus, none, inf, -inf, least, -least, below(api.MinReal), above(api.MaxReal), 0x1p41, most, -1, -api.MinReal, -api.MaxReal}
}

// The oracle tells once more what chapter 5 says of boxes, and holds them against one another one by one.
func lies(b api.Box) bool {
	for _, f := range floats(b) {
		if math.IsNaN(f) || math.IsInf(f, 0) {
			return false
		}
	}
	return b.Low.X <= b.High.X && b.Low.Y <= b.High.Y
}

func meet(a, b api.Box) bool {
	return lies(a) && lies(b) && a.Low.X <= b.High.X && b.Low.X <= a.High.X && a.Low.Y <= b.High.Y && b.Low.Y <= a.High.Y
}

func wantPairs(l []api.Box) (want [][2]int) {
	for i := range l {
		for k := i + 1; k < len(l); k++ {
			if meet(l[i], l[k]) {
				want = append(want, [2]int{i, k})
			}
		}
	}
	return want
}

func wantWith(l []api.Box, b api.Box) (want []int) {
	for i := range l {
		if meet(l[i], b) {
			want = append(want, i)
		}
	}
	return want
}

// wantWidth goes by how many sizes are less rather than by sorting. (Of sizes noughts are alike here: both are made MinReal.)
func wantWidth(l []api.Box) float64 {
	var sizes []float64
	for _, b := range l {
		if lies(b) {
			sizes = append(sizes, (b.High.X-b.Low.X)+(b.High.Y-b.Low.Y))
		}
	}
	for _, size := range sizes {
		less, same := 0, 0
		for _, other := range sizes {
			if other < size {
				less++
			} else if other == size {
				same++
			}
		}
		if middle := (len(sizes) - 1) / 2; less <= middle && middle < less+same {
			size = max(api.MinReal, min(size, api.MaxReal))
			part, power := math.Frexp(size)
			if part == 0.5 {
				power--
			}
			return math.Ldexp(1, power)
		}
	}
	return 1
}

func isList[E comparable](t *testing.T, got []E, e api.Errno, want []E, call string, args ...any) {
	t.Helper()
	if e != api.OK || !slices.Equal(got, want) {
		t.Fatalf("%s%v is %v, %d, not %v", call, args, got, e, want)
	}
}

// isRefused: beside an error there is no list.
func isRefused[E any](t *testing.T, got []E, e, want api.Errno, call string, args ...any) {
	t.Helper()
	if e != want || len(got) > 0 {
		t.Fatalf("%s%v has %d and tells %d, not %d", call, args, len(got), e, want)
	}
}

func isPairs(t *testing.T, want [][2]int, width float64, l ...api.Box) {
	t.Helper()
	got, e := grid.Pairs(l, width)
	isList(t, got, e, want, "Pairs", l, width)
}

func isWith(t *testing.T, want []int, b api.Box, width float64, l ...api.Box) {
	t.Helper()
	got, e := grid.With(l, b, width)
	isList(t, got, e, want, "With", l, b, width)
}

func isCell(t *testing.T, p api.Vec, width float64, wantX, wantY int64, want api.Errno) {
	t.Helper()
	if x, y, e := grid.Cell(p, width); x != wantX || y != wantY || e != want {
		t.Fatalf("Cell(%v, %v) is %d, %d, %d, not %d, %d, %d", p, width, x, y, e, wantX, wantY, want)
	}
}

func isWidth(t *testing.T, want float64, l ...api.Box) {
	t.Helper()
	if got, e := grid.Width(l); e != api.OK || got != want {
		t.Fatalf("Width of %v is %v, %d, not %v", l, got, e, want)
	}
}

// enough tells of each kind whether it came up so often.
func enough[K comparable](t *testing.T, count map[K]int, least int, kinds ...K) {
	t.Helper()
	for _, k := range kinds {
		if count[k] < least {
			t.Errorf("too few of %v: %v", k, count)
		}
	}
}

// source makes floats from a rule of whole numbers: the same ones in each run.
type source uint64

func (s *source) next() uint64 {
	*s = *s*6364136223846793005 + 1442695040888963407
	return uint64(*s >> 31)
}

func (s *source) below(n int) int { return int(s.next() % uint64(n)) }

func (s *source) of(l ...float64) float64 { return l[s.below(len(l))] }

// plain has all its bits in use, and is from some 2^-20 to 2^20.
func (s *source) plain() float64 {
	whole := int64(s.next()<<20^s.next())&(1<<53-1) - 1<<52
	return math.Ldexp(float64(whole), s.below(40)-72)
}

// few are from few floats, so that ends often meet, at borders of cells too, noughts among them.
func (s *source) few() float64 { return s.of(-2, -1, minus, 0, 1, 2, 3) }

// edge is one at which orders and signs have their edges, such as no box may have among them.
func (s *source) edge() float64 {
	return s.of(none, -inf, -most, -1, -least, minus, 0, least, 1, above(1), most, inf)
}

// far lies about where cells end, by one width or another, and far beyond.
func (s *source) far() float64 {
	f := s.of(0, 1, 0x1p22, 0x1p23, 0x1p24, 0x1p40, 0x1p53, 0x1p54, 0x1p92, 0x1p93, 0x1p94, 0x1p500, most)
	f = s.of(f, below(f), min(above(f), most))
	return s.of(f, -f)
}

func (s *source) box(part func() float64) api.Box { return four(part(), part(), part(), part()) }

// right has its ends in order; it lies, if its floats are finite.
func (s *source) right(part func() float64) api.Box {
	b := s.box(part)
	if b.Low.X > b.High.X {
		b.Low.X, b.High.X = b.High.X, b.Low.X
	}
	if b.Low.Y > b.High.Y {
		b.Low.Y, b.High.Y = b.High.Y, b.Low.Y
	}
	return b
}

// small lies in the plane such that some of many meet and some do not, on both sides of nought.
func (s *source) small() api.Box {
	x, y := float64(s.below(400)-200)/8, float64(s.below(400)-200)/8
	return four(x, y, x+float64(s.below(60))/8, y+float64(s.below(60))/8)
}

// mixed is as small is, but for some that are great or long and thin.
func (s *source) mixed() api.Box {
	b := s.small()
	switch s.below(8) {
	case 0:
		b.High.X += 60
	case 1:
		b.High.Y += 60
	case 2:
		b.High.X, b.High.Y = b.High.X+40, b.High.Y+40
	case 3:
		b.High = b.Low
	}
	return b
}

// list has boxes of one kind; some of some kinds may not be.
func (s *source) list(n int) []api.Box {
	makers := []func() api.Box{
		func() api.Box { return s.right(s.few) },
		func() api.Box { return s.box(s.few) },
		func() api.Box { return s.right(s.edge) },
		func() api.Box { return s.right(s.plain) },
		func() api.Box { return s.right(s.far) },
		s.small, s.small, s.mixed, s.mixed,
	}
	one := makers[s.below(len(makers))]
	l := make([]api.Box, n)
	for i := range l {
		l[i] = one()
	}
	return l
}

// width is one of those that may be, often such that boxes lie over some cells each.
func (s *source) width() float64 {
	if s.below(2) == 0 {
		return s.of(rightWidths()...)
	}
	return float64(1+s.below(200)) / 16
}

// overLists hands over lists of lengths up to 80.
func overLists(rounds int, f func(s *source, l []api.Box)) {
	s := source(14)
	for range rounds {
		n := s.below(10)
		if s.below(2) == 0 {
			n = s.below(80)
		}
		f(&s, s.list(n))
	}
}

func isMet(l [][2]int) string {
	if len(l) == 0 {
		return "none"
	}
	return "some"
}

func TestP14_1Pairs(t *testing.T) {
	count := map[string]int{}
	overLists(8000, func(s *source, l []api.Box) {
		want := wantPairs(l)
		isPairs(t, want, s.width(), l...)
		count[isMet(want)]++
	})
	enough(t, count, 500, "none", "some")
}

func TestP14_1Ends(t *testing.T) {
	first := [][2]int{{0, 1}}
	a := four(0, 0, 1, 1)
	for _, c := range []struct {
		b    api.Box
		want [][2]int
	}{
		// Ends count, on each side and at the corners.
		{four(1, 0, 2, 1), first}, {four(-1, 0, 0, 1), first}, {four(0, 1, 1, 2), first}, {four(0, -1, 1, 0), first},
		{four(1, 1, 2, 2), first}, {four(-1, -1, 0, 0), first}, {four(1, -1, 2, 0), first}, {four(-1, 1, 0, 2), first},
		{four(above(1), 0, 2, 1), nil}, {four(-1, 0, -least, 1), nil}, {four(0, above(1), 1, 2), nil}, {four(0, -1, 1, -least), nil},
		// Noughts are alike.
		{four(-1, -1, minus, minus), first}, {four(minus, minus, minus, minus), first}, {four(-1, minus, minus, minus), first},
		// One in the other, one across the other, a line, a place.
		{four(0.25, 0.25, 0.5, 0.5), first}, {four(-9, -9, 9, 9), first}, {four(-9, 0.25, 9, 0.5), first}, {four(0.25, -9, 0.5, 9), first}, {four(0.5, 0, 0.5, 1), first}, {four(0.5, 0.5, 0.5, 0.5), first}, {a, first},
		{four(-most, -most, most, most), first}, {four(-most, -most, 0, 0), first}, {four(1, 1, most, most), first}, {four(-most, -most, -most, most), nil},
		// Along one axis alone they lie over one another; in the same cells or not.
		{four(0, 5, 1, 6), nil}, {four(5, 0, 6, 1), nil}, {four(0, 1.5, 1, 1.5), nil}, {four(1.5, 0, 1.5, 1), nil},
		// Such as do not lie.
		{four(1, 0, 0, 1), nil}, {four(0, 1, 1, 0), nil}, {four(none, 0, 1, 1), nil}, {four(0, none, 1, 1), nil}, {four(0, 0, none, 1), nil}, {four(0, 0, 1, none), nil},
		{four(-inf, 0, 1, 1), nil}, {four(0, -inf, 1, 1), nil}, {four(0, 0, inf, 1), nil}, {four(0, 0, 1, inf), nil}, {four(-inf, -inf, inf, inf), nil}, {four(none, none, none, none), nil},
	} {
		for _, width := range rightWidths() {
			isPairs(t, c.want, width, a, c.b)
			isPairs(t, c.want, width, c.b, a)
			isWith(t, wantWith([]api.Box{a}, c.b), c.b, width, a)
			isWith(t, wantWith([]api.Box{c.b}, a), a, width, c.b)
		}
	}
	isPairs(t, nil, 1)
	isPairs(t, nil, 1, a)
	isPairs(t, nil, 1, four(none, 0, 1, 1))
	isPairs(t, nil, 1, four(-inf, -inf, inf, inf), four(-inf, -inf, inf, inf))
}

// Boxes over each number of columns and rows, from 1 to 7: those that are put into cells, and those that are not.
func TestP14_1OverSomeCells(t *testing.T) {
	var l []api.Box
	for columns := range 7 {
		for rows := range 7 {
			for _, at := range []float64{-0.75, 0.25, 2.25} {
				l = append(l, four(at, -at, at+float64(columns), -at+float64(rows)))
				l = append(l, four(at+0.25, at, at+0.25+float64(columns), at+float64(rows)))
			}
		}
	}
	for at := range l {
		for _, k := range []int{3, 20, len(l)} {
			part := l[at:min(len(l), at+k)]
			isPairs(t, wantPairs(part), 1, part...)
		}
	}
}

// Beyond where cells are told apart, and where the division is infinite, boxes have their pairs still.
func TestP14_1FarAway(t *testing.T) {
	for _, x := range []float64{0x1p23, 0x1p53, 0x1p93, 0x1p200, most / 4} {
		for _, sign := range []float64{1, -1} {
			at := sign * x
			next := above(at)
			l := []api.Box{four(at, at, at, at), four(next, next, next, next), four(at, at, next, next), four(next, at, above(next), at), four(0, 0, 1, 1), four(-1, -1, 0, 0), four(-most, -most, most, most)}
			for _, width := range rightWidths() {
				isPairs(t, [][2]int{{0, 2}, {0, 6}, {1, 2}, {1, 6}, {2, 3}, {2, 6}, {3, 6}, {4, 5}, {4, 6}, {5, 6}}, width, l...)
			}
		}
	}
}

func TestP14_1WrongWidth(t *testing.T) {
	for _, width := range wrongWidths() {
		for _, l := range [][]api.Box{nil, heaps(1), heaps(2, 3), {four(none, 0, 1, 1)}, heaps(400), heaps(api.MaxNodes)} {
			got, e := grid.Pairs(l, width)
			isRefused(t, got, e, api.ErrCell, "Pairs", len(l), width)
		}
		// That the list is too long is said first.
		for _, b := range []api.Box{{}, four(none, 0, 0, 0)} {
			got, e := grid.Pairs(slices.Repeat([]api.Box{b}, api.MaxNodes+1), width)
			isRefused(t, got, e, api.ErrMany, "Pairs", b, width)
		}
	}
}

// heaps are boxes one upon another, so many of each heap, the heaps apart.
func heaps(sizes ...int) (l []api.Box) {
	for at, n := range sizes {
		x := float64(4 * at)
		l = append(l, slices.Repeat([]api.Box{four(x, 0, x+1, 1)}, n)...)
	}
	return l
}

// longer makes every other box longer than many cells, by the width 1, without changing what meets.
func longer(l []api.Box) []api.Box {
	l = slices.Clone(l)
	for i := range l {
		if i%2 == 0 {
			l[i].High.Y = 50
		}
	}
	return l
}

func TestP14_1ManyPairs(t *testing.T) {
	wrong := slices.Repeat([]api.Box{four(1, 0, 0, 1), four(0, 0, none, 1), four(-inf, 0, inf, 1)}, 1000)
	for _, width := range []float64{api.MinReal, 0.25, 0.5, 1, 3, api.MaxReal} {
		// 65341, 190, 3, 1 and 1 pairs.
		just := heaps(362, 20, 3, 2, 2)
		want := wantPairs(just)
		if len(want) != api.MaxPairs {
			t.Fatal("the list has another number of pairs")
		}
		for _, l := range [][]api.Box{just, longer(just)} {
			got, e := grid.Pairs(l, width)
			if e != api.OK || !slices.Equal(got, want) {
				t.Errorf("Pairs by %v has %d, %d", width, len(got), e)
			}
			got, e = grid.Pairs(slices.Concat(wrong, l, wrong), width)
			if e != api.OK || len(got) != api.MaxPairs || got[0] != [2]int{len(wrong), len(wrong) + 1} {
				t.Errorf("Pairs by %v with others that do not lie has %d, %d", width, len(got), e)
			}
		}
		for _, sizes := range [][]int{{362, 20, 3, 2, 2, 2}, {2, 2, 2, 3, 20, 362}, {363}, {363, 1, 1}, {1, 1, 400}, {api.MaxNodes}} {
			l := heaps(sizes...)
			for _, l := range [][]api.Box{l, longer(l)} {
				got, e := grid.Pairs(l, width)
				isRefused(t, got, e, api.ErrMany, "Pairs", sizes, width)
			}
		}
	}
}

// Many boxes over the same 16 cells, by the width 1, behind points in each of these.
func TestP14_1ManyPairsOverSomeCells(t *testing.T) {
	points := func() (l []api.Box) {
		for i := range 16 {
			x, y := float64(3-i/4)+0.125, float64(3-i%4)+0.125
			l = append(l, four(x, y, x, y))
		}
		return l
	}
	for _, c := range []struct {
		n    int
		want api.Errno
	}{{350, api.OK}, {363, api.ErrMany}, {4000, api.ErrMany}, {api.MaxNodes - 16, api.ErrMany}} {
		l := append(points(), slices.Repeat([]api.Box{four(0.5, 0.5, 3.5, 3.5)}, c.n)...)
		got, e := grid.Pairs(l, 1)
		if c.want != api.OK {
			isRefused(t, got, e, c.want, "Pairs", c.n)
		} else if e != api.OK || !slices.Equal(got, wantPairs(l)) {
			t.Errorf("Pairs of %d has %d, %d", c.n, len(got), e)
		}
	}
}

func TestP14_2With(t *testing.T) {
	count := map[string]int{}
	overLists(6000, func(s *source, l []api.Box) {
		for _, b := range s.list(4) {
			want := wantWith(l, b)
			isWith(t, want, b, s.width(), l...)
			switch {
			case !lies(b):
				count["does not lie"]++
			case len(want) == 0:
				count["none"]++
			case len(want) == len(l):
				count["all"]++
			default:
				count["some"]++
			}
		}
	})
	enough(t, count, 300, "does not lie", "none", "all", "some")
	isWith(t, nil, four(0, 0, 1, 1), 1)
}

func TestP14_2Refused(t *testing.T) {
	l := make([]api.Box, api.MaxNodes+1)
	for _, b := range []api.Box{{}, four(none, 0, 0, 0), four(5, 5, 6, 6)} {
		for _, width := range wrongWidths() {
			for _, l := range [][]api.Box{nil, l[:3], l[:api.MaxNodes]} {
				got, e := grid.With(l, b, width)
				isRefused(t, got, e, api.ErrCell, "With", len(l), b, width)
			}
			got, e := grid.With(l, b, width)
			isRefused(t, got, e, api.ErrMany, "With", b, width)
		}
		got, e := grid.With(l, b, 1)
		isRefused(t, got, e, api.ErrMany, "With", b)
		// How many it tells has no limit but the list's own.
		got, e = grid.With(l[:api.MaxNodes], b, 1)
		if want := wantWith(l[:api.MaxNodes], b); e != api.OK || !slices.Equal(got, want) {
			t.Errorf("With has %d, %d, not %d", len(got), e, len(want))
		}
	}
}

// floor is the greatest whole number not above a float, of which it is not asked how floats are rounded.
func floor(a float64) *big.Int {
	whole, _ := new(big.Float).SetFloat64(a).Int(nil)
	if new(big.Float).SetInt(whole).Cmp(new(big.Float).SetFloat64(a)) > 0 {
		whole.Sub(whole, big.NewInt(1))
	}
	return whole
}

func wantCell(p api.Vec, width float64) (x, y int64, e api.Errno) {
	for _, f := range []float64{p.X, p.Y} {
		if math.IsNaN(f) || math.Abs(f) > api.MaxReal {
			return 0, 0, api.ErrReal
		}
	}
	if math.IsNaN(width) || width < api.MinReal || width > api.MaxReal {
		return 0, 0, api.ErrCell
	}
	column, row := floor(p.X/width), floor(p.Y/width)
	if farthest := big.NewInt(1 << 53); column.CmpAbs(farthest) > 0 || row.CmpAbs(farthest) > 0 {
		return 0, 0, api.ErrCell
	}
	return column.Int64(), row.Int64(), api.OK
}

func TestP14_3Cell(t *testing.T) {
	count := map[api.Errno]int{}
	s := source(3)
	for range 60000 {
		parts := []func() float64{s.plain, s.few, s.edge, s.far}
		p := v(parts[s.below(4)](), parts[s.below(4)]())
		width := s.width()
		if s.below(8) == 0 {
			width = s.of(wrongWidths()...)
		}
		x, y, e := wantCell(p, width)
		isCell(t, p, width, x, y, e)
		count[e]++
	}
	enough(t, count, 2000, api.OK, api.ErrReal, api.ErrCell)
}

func TestP14_3Ends(t *testing.T) {
	const end = 1 << 53
	for _, c := range []struct {
		at, width float64
		want      int64
		e         api.Errno
	}{
		// Borders belong to the cell that begins there.
		{1, 1, 1, api.OK}, {below(1), 1, 0, api.OK}, {-1, 1, -1, api.OK}, {below(-1), 1, -2, api.OK}, {above(-1), 1, -1, api.OK},
		{0, 1, 0, api.OK}, {minus, 1, 0, api.OK}, {0.5, 0.25, 2, api.OK}, {-0.5, 0.25, -2, api.OK},
		// As the division rounds, not as reals would have it.
		{0.3, 0.1, 2, api.OK}, {-0.3, 0.1, -3, api.OK}, {1, 0.1, 10, api.OK}, {below(3), 3, 0, api.OK},
		// So small that the division makes it nought.
		{least, api.MaxReal, 0, api.OK}, {-least, api.MaxReal, 0, api.OK}, {-0x1p-900, api.MaxReal, -1, api.OK}, {-least, api.MinReal, -1, api.OK},
		// The farthest cells.
		{0x1p23, api.MinReal, end, api.OK}, {above(0x1p23), api.MinReal, 0, api.ErrCell}, {below(0x1p23), api.MinReal, end - 1, api.OK},
		{-0x1p23, api.MinReal, -end, api.OK}, {below(-0x1p23), api.MinReal, 0, api.ErrCell}, {above(-0x1p23), api.MinReal, 1 - end, api.OK},
		{api.MaxReal, 0x1p-13, end, api.OK}, {-api.MaxReal, 0x1p-13, -end, api.OK}, {api.MaxReal, below(0x1p-13), 0, api.ErrCell}, {-api.MaxReal, below(0x1p-13), 0, api.ErrCell},
		{api.MaxReal, api.MaxReal, 1, api.OK}, {-api.MaxReal, api.MaxReal, -1, api.OK}, {api.MaxReal, api.MinReal, 0, api.ErrCell},
		// What is no place.
		{above(api.MaxReal), 1, 0, api.ErrReal}, {below(-api.MaxReal), 1, 0, api.ErrReal}, {inf, 1, 0, api.ErrReal}, {-inf, 1, 0, api.ErrReal}, {none, 1, 0, api.ErrReal}, {most, 1, 0, api.ErrReal},
	} {
		isCell(t, v(c.at, c.at), c.width, c.want, c.want, c.e)
		isCell(t, v(c.at, 0), c.width, c.want, 0, c.e)
		isCell(t, v(0, c.at), c.width, 0, c.want, c.e)
	}
	for _, width := range wrongWidths() {
		isCell(t, v(1, 1), width, 0, 0, api.ErrCell)
		// That the place may not be is said first.
		isCell(t, v(none, 1), width, 0, 0, api.ErrReal)
		isCell(t, v(1, 0x1p41), width, 0, 0, api.ErrReal)
	}
}

func TestP14_4Width(t *testing.T) {
	count := map[float64]int{}
	overLists(8000, func(_ *source, l []api.Box) {
		want := wantWidth(l)
		isWidth(t, want, l...)
		count[want]++
	})
	enough(t, count, 100, 1, api.MinReal, api.MaxReal, 2, 4, 8)
}

func TestP14_4Ends(t *testing.T) {
	size := func(a float64) api.Box { return four(0, 0, a, 0) }
	wrong := four(1, 0, 0, 1)
	for _, c := range []struct{ size, want float64 }{
		{1, 1}, {above(1), 2}, {below(1), 1}, {2, 2}, {3, 4}, {0.5, 0.5}, {above(0.5), 1}, {0.75, 1},
		{0, api.MinReal}, {least, api.MinReal}, {below(api.MinReal), api.MinReal}, {api.MinReal, api.MinReal}, {above(api.MinReal), 2 * api.MinReal},
		{api.MaxReal / 2, api.MaxReal / 2}, {above(api.MaxReal / 2), api.MaxReal}, {below(api.MaxReal), api.MaxReal}, {api.MaxReal, api.MaxReal}, {above(api.MaxReal), api.MaxReal}, {0x1p41, api.MaxReal}, {most, api.MaxReal},
	} {
		isWidth(t, c.want, size(c.size))
		isWidth(t, c.want, four(0, 0, 0, c.size))
		isWidth(t, c.want, wrong, size(c.size), wrong)
		// Of an odd number the middle one, of an even one the one ahead of the middle; in whatever order.
		isWidth(t, c.want, size(c.size), size(most))
		isWidth(t, c.want, size(most), size(c.size))
		isWidth(t, c.want, size(most), size(c.size), size(0))
		isWidth(t, c.want, size(most), size(0), size(c.size), size(most))
		isWidth(t, c.want, size(0), size(most), size(c.size), size(0), size(most))
	}
	// The size is of both sides together, and infinite where that overflows.
	isWidth(t, 8, four(1, 1, 4, 6))
	isWidth(t, 16, four(-4, -1, 0.5, 4))
	isWidth(t, api.MaxReal, four(-most, -most, most, most))
	isWidth(t, api.MaxReal, four(0, 0, most, most))
	isWidth(t, api.MaxReal, four(-most, 0, most, 0), four(-most, 0, most, 0), size(1))
	isWidth(t, api.MinReal, four(0, 0, minus, minus), size(0), four(0, 0, minus, minus))
	isWidth(t, 1)
	isWidth(t, 1, wrong, four(none, 0, 9, 9), four(0, 0, inf, 9))
}

func TestP14_4Longest(t *testing.T) {
	for _, b := range []api.Box{{}, four(0, 0, 3, 3), four(none, 0, 0, 0)} {
		l := slices.Repeat([]api.Box{b}, api.MaxNodes+1)
		if got, e := grid.Width(l); e != api.ErrMany || got != 0 {
			t.Errorf("Width of too many is %v, %d", got, e)
		}
		isWidth(t, wantWidth(l[:1]), l[:api.MaxNodes]...)
	}
}

// ends holds a call to a time that no call comes near to, unless it goes through all cells of a box.
func ends(t *testing.T, call func()) {
	t.Helper()
	done := make(chan struct{})
	go func() {
		defer close(done)
		call()
	}()
	select {
	case <-done:
	case <-time.After(time.Minute):
		t.Fatal("the call does not end")
	}
}

// apart are so many boxes that do not meet, in a row along an axis or the other one, each as long as is asked for across it.
func apart(n int, long float64, column bool) []api.Box {
	l := make([]api.Box, n)
	for i := range l {
		at := float64(2 * (i * 7919 % n))
		if l[i] = four(at, 0, at+1, long); column {
			l[i] = four(0, at, long, at+1)
		}
	}
	return l
}

func TestP14_5Longest(t *testing.T) {
	for _, column := range []bool{false, true} {
		for _, long := range []float64{1, 3, most} {
			l := apart(api.MaxNodes+1, long, column)
			for _, width := range []float64{api.MinReal, 1, api.MaxReal} {
				ends(t, func() {
					got, e := grid.Pairs(l[:api.MaxNodes], width)
					if e != api.OK || len(got) > 0 {
						t.Errorf("Pairs by %v has %d, %d", width, len(got), e)
					}
				})
				got, e := grid.Pairs(l, width)
				isRefused(t, got, e, api.ErrMany, "Pairs", width)
			}
		}
	}
	isPairs(t, nil, 1, make([]api.Box, 1, api.MaxNodes+1)...)
}

func TestP14_5Widest(t *testing.T) {
	l := apart(2000, 1, false)
	l = append(l, four(-most, -most, most, most), four(-0x1p40, -0x1p40, 0x1p40, 0x1p40), four(-most, -5, most, -4))
	want := wantPairs(l)
	for _, width := range rightWidths() {
		ends(t, func() {
			if got, e := grid.Pairs(l, width); e != api.OK || !slices.Equal(got, want) {
				t.Errorf("Pairs by %v has %d, %d, not %d", width, len(got), e, len(want))
			}
			if got, e := grid.With(l, four(-most, -most, most, most), width); e != api.OK || len(got) != len(l) {
				t.Errorf("With by %v has %d, %d", width, len(got), e)
			}
		})
	}
}

func sameBits(a, b api.Box) bool {
	for i, f := range floats(a) {
		if math.Float64bits(f) != math.Float64bits(floats(b)[i]) {
			return false
		}
	}
	return true
}

// roomy is a list with spare room, which must stay as it is too.
func roomy(l []api.Box) []api.Box {
	room := slices.Repeat([]api.Box{four(7, 7, 8, 8)}, len(l)+4)
	copy(room, l)
	return room[:len(l)]
}

func TestP14_5Memory(t *testing.T) {
	overLists(2000, func(s *source, l []api.Box) {
		l = roomy(l)
		kept := slices.Clone(l[:cap(l)])
		width := s.width()
		// What is answered may be written over, its spare room too, and is the same in the next call.
		for range 2 {
			pairs, _ := grid.Pairs(l, width)
			with, _ := grid.With(l, four(-1, -1, 9, 9), width)
			isList(t, pairs, api.OK, wantPairs(kept[:len(l)]), "Pairs", kept)
			isList(t, with, api.OK, wantWith(kept[:len(l)], four(-1, -1, 9, 9)), "With", kept)
			isWidth(t, wantWidth(kept[:len(l)]), l...)
			clear(pairs[:cap(pairs)])
			clear(with[:cap(with)])
		}
		if !slices.EqualFunc(l[:cap(l)], kept, sameBits) {
			t.Fatalf("of %v something was changed", kept)
		}
	})
}

func TestP14_6AsSweep(t *testing.T) {
	overLists(1500, func(_ *source, l []api.Box) {
		want, e := sweep.Pairs(l)
		if e != api.OK {
			t.Fatalf("sweep tells %d", e)
		}
		own, e := grid.Width(l)
		if e != api.OK {
			t.Fatalf("Width tells %d", e)
		}
		for _, width := range append(rightWidths(), own) {
			isPairs(t, want, width, l...)
		}
	})
}

func TestP14_6ManyAsSweep(t *testing.T) {
	s := source(6)
	for _, one := range []func() api.Box{s.small, s.mixed} {
		l := make([]api.Box, 1200)
		for i := range l {
			l[i] = one()
			aside := float64(i / 8)
			l[i].Low.X, l[i].High.X = l[i].Low.X+aside, l[i].High.X+aside
		}
		want, e := sweep.Pairs(l)
		if e != api.OK || len(want) == 0 {
			t.Fatalf("sweep has %d, %d", len(want), e)
		}
		for _, width := range rightWidths() {
			if got, e := grid.Pairs(l, width); e != api.OK || !slices.Equal(got, want) {
				t.Errorf("Pairs by %v has %d, %d, not %d", width, len(got), e, len(want))
			}
		}
	}
}

func TestP14_6WithAsPairs(t *testing.T) {
	overLists(1500, func(s *source, l []api.Box) {
		pairs, e := grid.Pairs(l, s.width())
		if e != api.OK {
			t.Fatalf("Pairs tells %d", e)
		}
		for k, b := range l {
			var want []int
			if lies(b) {
				want = append(want, k)
			}
			for _, p := range pairs {
				if p[0] == k {
					want = append(want, p[1])
				} else if p[1] == k {
					want = append(want, p[0])
				}
			}
			slices.Sort(want)
			isWith(t, want, b, s.width(), l...)
		}
	})
}

// times is a whole number of widths, exactly.
func times(n int64, width float64) *big.Float {
	return new(big.Float).SetPrec(200).Mul(new(big.Float).SetInt64(n), new(big.Float).SetFloat64(width))
}

func isInCell(t *testing.T, at, width float64, column int64) {
	t.Helper()
	f := new(big.Float).SetFloat64(at)
	if times(column, width).Cmp(f) > 0 || f.Cmp(times(column+1, width)) >= 0 {
		t.Fatalf("by %v the place %v does not lie in %d", width, at, column)
	}
}

func TestP14_7InItsCell(t *testing.T) {
	s := source(7)
	part := func() float64 {
		switch s.below(4) {
		case 0:
			return s.of(0, minus, 0x1p-900, -0x1p-900, above(0x1p-900), 0x1p-500, -0x1p-500)
		case 1:
			return math.Ldexp(s.plain(), 20-s.below(800))
		}
		return s.plain()
	}
	told := 0
	for range 40000 {
		p, width := v(part(), part()), math.Ldexp(1, s.below(71)-30)
		x, y, e := grid.Cell(p, width)
		if e != api.OK {
			continue
		}
		isInCell(t, p.X, width, x)
		isInCell(t, p.Y, width, y)
		told++
	}
	if told < 30000 {
		t.Errorf("%d cells are too few", told)
	}
}

// cellsOf are the first and the last cell of a box, if both are told.
func cellsOf(b api.Box, width float64) (c [4]int64, is bool) {
	x, y, e := grid.Cell(b.Low, width)
	z, w, f := grid.Cell(b.High, width)
	return [4]int64{x, y, z, w}, e == api.OK && f == api.OK
}

func TestP14_7CellInCommon(t *testing.T) {
	told := 0
	overLists(4000, func(s *source, l []api.Box) {
		width := s.width()
		for _, p := range wantPairs(l) {
			a, is := cellsOf(l[p[0]], width)
			b, also := cellsOf(l[p[1]], width)
			if !is || !also {
				continue
			}
			if max(a[0], b[0]) > min(a[2], b[2]) || max(a[1], b[1]) > min(a[3], b[3]) {
				t.Fatalf("by %v %v and %v have no cell in common", width, l[p[0]], l[p[1]])
			}
			told++
		}
	})
	if told < 100000 {
		t.Errorf("%d pairs are too few", told)
	}
}

func TestP14_7PowersOfTwo(t *testing.T) {
	told := 0
	s := source(77)
	for range 3000 {
		l := make([]api.Box, 1+s.below(20))
		for i := range l {
			l[i] = s.right(s.plain)
		}
		was, _ := grid.Width(l)
		for _, by := range []float64{0.5, 2, 0x1p-9, 0x1p9, 0x1p-30, 0x1p30} {
			if was*by < api.MinReal || was*by > api.MaxReal || was == api.MinReal || was == api.MaxReal {
				continue
			}
			many := slices.Clone(l)
			for i, b := range many {
				many[i] = four(b.Low.X*by, b.Low.Y*by, b.High.X*by, b.High.Y*by)
			}
			isWidth(t, was*by, many...)
			told++
		}
	}
	if told < 5000 {
		t.Errorf("%d are too few", told)
	}
}

func TestExamples(t *testing.T) {
	l := []api.Box{four(0, 0, 1, 1), four(1, 1, 2, 2), four(3, 0, 4, 1), four(0.5, 0.5, 3.5, 0.6)}
	for _, width := range []float64{1, 0x1p-30, 0x1p40} {
		isPairs(t, [][2]int{{0, 1}, {0, 3}, {2, 3}}, width, l...)
	}
	isPairs(t, nil, 1, four(0, 0, 1, 1), four(1, 0, 0, 1))
	isPairs(t, nil, 1)
	for _, width := range []float64{0, none, 0x1p41} {
		got, e := grid.Pairs(l, width)
		isRefused(t, got, e, api.ErrCell, "Pairs", l, width)
	}
	got, e := grid.Pairs(make([]api.Box, 16385), 0)
	isRefused(t, got, e, api.ErrMany, "Pairs of 16385 boxes")
	isWith(t, []int{0, 1}, four(1, 1, 2, 2), 0.5, four(0, 0, 1, 1), four(2, 2, 3, 3))
	isWith(t, nil, four(1, 1, 0, 0), 0.5, four(0, 0, 1, 1), four(2, 2, 3, 3))
	isCell(t, v(2.5, -0.25), 0.5, 5, -1, api.OK)
	isCell(t, v(0, minus), 1, 0, 0, api.OK)
	isCell(t, v(0x1p40, 0), 0x1p-30, 0, 0, api.ErrCell)
	isCell(t, v(none, 0), 0, 0, 0, api.ErrReal)
	isWidth(t, 4, four(0, 0, 1, 1), four(0, 0, 2, 2), four(0, 0, 9, 9))
	isWidth(t, 1)
	isWidth(t, 0x1p-30, api.Box{})
}
