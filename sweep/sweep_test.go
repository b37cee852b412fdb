package sweep_test

import (
	"math"
	"slices"
	"testing"

	"tumble/api"
	"tumble/sweep"
)

var (
	minus = math.Copysign(0, -1)
	none  = math.NaN()
	inf   = math.Inf(1)
)

const (
	most  = math.MaxFloat64
	least = math.SmallestNonzeroFloat64
)

func four(a, b, c, d float64) api.Box {
	return api.Box{Low: api.Vec{X: a, Y: b}, High: api.Vec{X: c, Y: d}}
}

func floats(b api.Box) [4]float64 { return [4]float64{b.Low.X, b.Low.Y, b.High.X, b.High.Y} }

// The oracle tells once more what chapter 5 says of boxes, and holds them against one another one by one.
func mayBe(b api.Box) bool {
	for _, f := range floats(b) {
		if math.IsNaN(f) || math.IsInf(f, 0) {
			return false
		}
	}
	return b.Low.X <= b.High.X && b.Low.Y <= b.High.Y
}

func meet(a, b api.Box) bool {
	return mayBe(a) && mayBe(b) && a.Low.X <= b.High.X && b.Low.X <= a.High.X && a.Low.Y <= b.High.Y && b.Low.Y <= a.High.Y
}

func wantPairs(l []api.Box) (want [][2]int) {
	for i := range l {
		for k := i + 1; k < len(l); k++ {
			if meet(l[i], l[k]) {
				want = append(want, [2]int{i, k})
			}
		}
	}
	return want
}

func wantWith(l []api.Box, b api.Box) (want []int) {
	for i := range l {
		if meet(l[i], b) {
			want = append(want, i)
		}
	}
	return want
}

// wantOrder takes the foremost one out again and again.
func wantOrder(l []api.Box) (want []int) {
	var rest []int
	for i := range l {
		if mayBe(l[i]) {
			rest = append(rest, i)
		}
	}
	for len(rest) > 0 {
		first := 0
		for at, i := range rest {
			if l[i].Low.X < l[rest[first]].Low.X {
				first = at
			}
		}
		want = append(want, rest[first])
		rest = slices.Delete(rest, first, first+1)
	}
	return want
}

func wantBetween(l, k []api.Box) (want [][2]int) {
	for i := range l {
		for j := range k {
			if meet(l[i], k[j]) {
				want = append(want, [2]int{i, j})
			}
		}
	}
	return want
}

func isList[E comparable](t *testing.T, got []E, e api.Errno, want []E, call string, args ...any) {
	t.Helper()
	if e != api.OK || !slices.Equal(got, want) {
		t.Fatalf("%s%v is %v, %d, not %v", call, args, got, e, want)
	}
}

// isRefused: beside an error there is no list.
func isRefused[E any](t *testing.T, got []E, e api.Errno, call string) {
	t.Helper()
	if e != api.ErrMany || len(got) > 0 {
		t.Fatalf("%s has %d and tells %d, not ErrMany", call, len(got), e)
	}
}

func isPairs(t *testing.T, want [][2]int, l ...api.Box) {
	t.Helper()
	got, e := sweep.Pairs(l)
	isList(t, got, e, want, "Pairs", l)
}

func isWith(t *testing.T, want []int, b api.Box, l ...api.Box) {
	t.Helper()
	got, e := sweep.With(l, b)
	isList(t, got, e, want, "With", l, b)
}

func isOrder(t *testing.T, want []int, l ...api.Box) {
	t.Helper()
	got, e := sweep.Order(l)
	isList(t, got, e, want, "Order", l)
}

func isBetween(t *testing.T, want [][2]int, l, k []api.Box) {
	t.Helper()
	got, e := sweep.Between(l, k)
	isList(t, got, e, want, "Between", l, k)
}

// enough tells of each kind whether it came up so often.
func enough[K comparable](t *testing.T, count map[K]int, least int, kinds ...K) {
	t.Helper()
	for _, k := range kinds {
		if count[k] < least {
			t.Errorf("too few of %v: %v", k, count)
		}
	}
}

// source makes floats from a rule of whole numbers: the same ones in each run.
type source uint64

func (s *source) next() uint64 {
	*s = *s*6364136223846793005 + 1442695040888963407
	return uint64(*s >> 31)
}

func (s *source) below(n int) int { return int(s.next() % uint64(n)) }

// plain has all its bits in use, and is from some 2^-20 to 2^20.
func (s *source) plain() float64 {
	whole := int64(s.next()<<20^s.next())&(1<<53-1) - 1<<52
	return math.Ldexp(float64(whole), s.below(40)-72)
}

// few are from few floats, so that ends often meet, noughts among them.
func (s *source) few() float64 { return []float64{-2, -1, minus, 0, 1, 2, 3}[s.below(7)] }

// edge is one at which orders and signs have their edges, such as no box may have among them.
func (s *source) edge() float64 {
	l := []float64{none, -inf, -most, -1, -least, minus, 0, least, 1, math.Nextafter(1, 2), most, inf}
	return l[s.below(len(l))]
}

// small lies in the plane such that some of many meet and some do not.
func (s *source) small() api.Box {
	x, y := float64(s.below(400))/8, float64(s.below(400))/8
	return four(x, y, x+float64(s.below(60))/8, y+float64(s.below(60))/8)
}

func (s *source) box(part func() float64) api.Box { return four(part(), part(), part(), part()) }

// right has its ends in order; it may be, if its floats are finite.
func (s *source) right(part func() float64) api.Box {
	b := s.box(part)
	if b.Low.X > b.High.X {
		b.Low.X, b.High.X = b.High.X, b.Low.X
	}
	if b.Low.Y > b.High.Y {
		b.Low.Y, b.High.Y = b.High.Y, b.Low.Y
	}
	return b
}

// list has boxes of one kind; some of some kinds may not be.
func (s *source) list(n int) []api.Box {
	makers := []func() api.Box{
		func() api.Box { return s.right(s.few) },
		func() api.Box { return s.box(s.few) },
		func() api.Box { return s.right(s.edge) },
		func() api.Box { return s.right(s.plain) },
		s.small, s.small,
	}
	one := makers[s.below(len(makers))]
	l := make([]api.Box, n)
	for i := range l {
		l[i] = one()
	}
	return l
}

// overLists hands over lists of all lengths up to some 100: sorting goes other ways for short ones.
func overLists(rounds int, f func(s *source, l []api.Box)) {
	s := source(13)
	for range rounds {
		n := s.below(10)
		if s.below(2) == 0 {
			n = s.below(100)
		}
		f(&s, s.list(n))
	}
}

func isMet(l [][2]int) string {
	if len(l) == 0 {
		return "none"
	}
	return "some"
}

func TestP13_1Pairs(t *testing.T) {
	count := map[string]int{}
	overLists(6000, func(_ *source, l []api.Box) {
		want := wantPairs(l)
		isPairs(t, want, l...)
		count[isMet(want)]++
	})
	enough(t, count, 500, "none", "some")
}

func TestP13_1Ends(t *testing.T) {
	first := [][2]int{{0, 1}}
	a := four(0, 0, 1, 1)
	next := math.Nextafter(1, 2)
	for _, c := range []struct {
		b    api.Box
		want [][2]int
	}{
		// Ends count, on each side and at the corners.
		{four(1, 0, 2, 1), first}, {four(-1, 0, 0, 1), first}, {four(0, 1, 1, 2), first}, {four(0, -1, 1, 0), first},
		{four(1, 1, 2, 2), first}, {four(-1, -1, 0, 0), first}, {four(1, -1, 2, 0), first}, {four(-1, 1, 0, 2), first},
		{four(next, 0, 2, 1), nil}, {four(-1, 0, -least, 1), nil}, {four(0, next, 1, 2), nil}, {four(0, -1, 1, -least), nil},
		// Noughts are alike.
		{four(-1, -1, minus, minus), first}, {four(minus, minus, minus, minus), first}, {four(-1, minus, minus, minus), first},
		// One in the other, one across the other, a line, a place.
		{four(0.25, 0.25, 0.5, 0.5), first}, {four(-9, -9, 9, 9), first}, {four(-9, 0.25, 9, 0.5), first}, {four(0.25, -9, 0.5, 9), first}, {four(0.5, 0, 0.5, 1), first}, {four(0.5, 0.5, 0.5, 0.5), first}, {a, first},
		{four(-most, -most, most, most), first}, {four(-most, -most, 0, 0), first}, {four(1, 1, most, most), first}, {four(-most, -most, -most, most), nil},
		// Along one axis alone they lie over one another.
		{four(0, 5, 1, 6), nil}, {four(5, 0, 6, 1), nil},
		// Such as may not be.
		{four(1, 0, 0, 1), nil}, {four(0, 1, 1, 0), nil}, {four(none, 0, 1, 1), nil}, {four(0, none, 1, 1), nil}, {four(0, 0, none, 1), nil}, {four(0, 0, 1, none), nil},
		{four(-inf, 0, 1, 1), nil}, {four(0, -inf, 1, 1), nil}, {four(0, 0, inf, 1), nil}, {four(0, 0, 1, inf), nil}, {four(-inf, -inf, inf, inf), nil}, {four(none, none, none, none), nil},
	} {
		isPairs(t, c.want, a, c.b)
		isPairs(t, c.want, c.b, a)
		isBetween(t, wantBetween([]api.Box{a}, []api.Box{c.b}), []api.Box{a}, []api.Box{c.b})
		isBetween(t, wantBetween([]api.Box{c.b}, []api.Box{a}), []api.Box{c.b}, []api.Box{a})
		isWith(t, wantWith([]api.Box{a}, c.b), c.b, a)
		isWith(t, wantWith([]api.Box{c.b}, a), a, c.b)
	}
	isPairs(t, nil)
	isPairs(t, nil, a)
	isPairs(t, nil, four(none, 0, 1, 1))
	isPairs(t, nil, four(-inf, -inf, inf, inf), four(-inf, -inf, inf, inf))
}

// heaps are boxes one upon another, so many of each heap, the heaps apart.
func heaps(sizes ...int) (l []api.Box) {
	for at, n := range sizes {
		x := float64(4 * at)
		l = append(l, slices.Repeat([]api.Box{four(x, 0, x+1, 1)}, n)...)
	}
	return l
}

func TestP13_1ManyPairs(t *testing.T) {
	// 65341, 190, 3, 1 and 1 pairs.
	just := heaps(362, 20, 3, 2, 2)
	got, e := sweep.Pairs(just)
	if e != api.OK || len(got) != api.MaxPairs || !slices.Equal(got, wantPairs(just)) {
		t.Errorf("Pairs has %d, %d", len(got), e)
	}
	wrong := slices.Repeat([]api.Box{four(1, 0, 0, 1), four(0, 0, none, 1), four(-inf, 0, inf, 1)}, 1000)
	got, e = sweep.Pairs(slices.Concat(wrong, just, wrong))
	if e != api.OK || len(got) != api.MaxPairs || got[0] != [2]int{len(wrong), len(wrong) + 1} {
		t.Errorf("Pairs with others that may not be has %d, %d", len(got), e)
	}
	for _, sizes := range [][]int{{362, 20, 3, 2, 2, 2}, {2, 2, 2, 3, 20, 362}, {363}, {363, 1, 1}, {1, 1, 400}, {api.MaxNodes}} {
		got, e := sweep.Pairs(heaps(sizes...))
		isRefused(t, got, e, "Pairs")
	}
}

// apart are so many boxes that do not meet, in a row along an axis or the other one: those of a column all begin at one left end.
func apart(n int, column bool) []api.Box {
	l := make([]api.Box, n)
	for i := range l {
		at := float64(2 * (i * 7919 % n))
		if l[i] = four(at, 0, at+1, 1); column {
			l[i] = four(0, at, 1, at+1)
		}
	}
	return l
}

func TestP13_1Longest(t *testing.T) {
	for _, column := range []bool{false, true} {
		isPairs(t, nil, apart(api.MaxNodes, column)...)
		got, e := sweep.Pairs(apart(api.MaxNodes+1, column))
		isRefused(t, got, e, "Pairs")
	}
	isPairs(t, nil, make([]api.Box, 1, api.MaxNodes+1)...)
	// A list that is too long is refused, whatever it has.
	got, e := sweep.Pairs(slices.Repeat([]api.Box{four(none, 0, 0, 0)}, api.MaxNodes+1))
	isRefused(t, got, e, "Pairs")
}

func TestP13_2With(t *testing.T) {
	count := map[string]int{}
	overLists(6000, func(s *source, l []api.Box) {
		for _, b := range s.list(4) {
			want := wantWith(l, b)
			isWith(t, want, b, l...)
			switch {
			case !mayBe(b):
				count["may not be"]++
			case len(want) == 0:
				count["none"]++
			case len(want) == len(l):
				count["all"]++
			default:
				count["some"]++
			}
		}
	})
	enough(t, count, 300, "may not be", "none", "all", "some")
	isWith(t, nil, four(0, 0, 1, 1))
}

func TestP13_2Longest(t *testing.T) {
	l := make([]api.Box, api.MaxNodes+1)
	for _, b := range []api.Box{{}, four(none, 0, 0, 0), four(5, 5, 6, 6)} {
		got, e := sweep.With(l, b)
		isRefused(t, got, e, "With")
		// How many it tells has no limit but the list's own.
		got, e = sweep.With(l[:api.MaxNodes], b)
		if want := wantWith(l[:api.MaxNodes], b); e != api.OK || !slices.Equal(got, want) {
			t.Errorf("With has %d, %d, not %d", len(got), e, len(want))
		}
	}
}

func TestP13_3Order(t *testing.T) {
	count := map[string]int{}
	overLists(6000, func(_ *source, l []api.Box) {
		want := wantOrder(l)
		isOrder(t, want, l...)
		if len(want) < len(l) {
			count["may not be"]++
		}
		for at := range want[:max(0, len(want)-1)] {
			x, y := l[want[at]].Low.X, l[want[at+1]].Low.X
			switch {
			case x == y && math.Signbit(x) != math.Signbit(y):
				count["noughts"]++
			case x == y:
				count["equal"]++
			}
		}
	})
	enough(t, count, 500, "may not be", "noughts", "equal")
}

func TestP13_3Ends(t *testing.T) {
	at := func(x float64) api.Box { return four(x, 0, most, 0) }
	isOrder(t, nil)
	isOrder(t, nil, four(none, 0, 1, 1), four(1, 0, 0, 1), four(-inf, 0, 0, 0))
	isOrder(t, []int{0, 1, 2, 3}, at(0), at(minus), at(0), at(minus))
	isOrder(t, []int{1, 4, 0, 2, 3, 5}, at(0), at(-most), at(minus), at(0), at(-least), at(least))
	isOrder(t, []int{3, 2, 1, 0}, at(most), at(math.Nextafter(1, 2)), at(1), at(-1))
	// The right end, the height, and how great a box is say nothing.
	isOrder(t, []int{0, 1, 2, 3}, four(1, 5, 9, 6), four(1, 0, 2, 1), four(1, -5, 1, -5), four(1, -9, 8, 9))
}

func TestP13_3LikeOnesStay(t *testing.T) {
	l := make([]api.Box, 5000)
	s := source(3)
	for i := range l {
		x := float64(s.below(4) - 2)
		if x == 0 && s.below(2) == 0 {
			x = minus
		}
		l[i] = four(x, 0, x+float64(s.below(9)), float64(s.below(9)))
	}
	isOrder(t, wantOrder(l), l...)
}

func TestP13_3Longest(t *testing.T) {
	l := make([]api.Box, api.MaxNodes+1)
	got, e := sweep.Order(l)
	isRefused(t, got, e, "Order")
	got, e = sweep.Order(slices.Repeat([]api.Box{four(none, 0, 0, 0)}, api.MaxNodes+1))
	isRefused(t, got, e, "Order")
	got, e = sweep.Order(l[:api.MaxNodes])
	if e != api.OK || len(got) != api.MaxNodes {
		t.Fatalf("Order has %d, %d", len(got), e)
	}
	for i, n := range got {
		if i != n {
			t.Fatalf("Order has %d at %d", n, i)
		}
	}
}

func TestP13_4Between(t *testing.T) {
	count := map[string]int{}
	overLists(6000, func(s *source, l []api.Box) {
		k := s.list(s.below(40))
		if s.below(3) == 0 {
			// Boxes of both lists begin alike.
			for i := range k {
				if len(l) > 0 {
					k[i] = l[s.below(len(l))]
				}
			}
		}
		want := wantBetween(l, k)
		isBetween(t, want, l, k)
		isBetween(t, wantBetween(k, l), k, l)
		count[isMet(want)]++
	})
	enough(t, count, 500, "none", "some")
	isBetween(t, nil, nil, nil)
	isBetween(t, nil, heaps(3), nil)
	isBetween(t, nil, nil, heaps(3))
}

func TestP13_4ManyPairs(t *testing.T) {
	for _, c := range [][2][]int{{{256}, {256}}, {{1 << 14}, {4}}, {{4}, {1 << 14}}, {{200, 100, 1}, {300, 55, 36}}} {
		l, k := heaps(c[0]...), heaps(c[1]...)
		if got, e := sweep.Between(l, k); e != api.OK || !slices.Equal(got, wantBetween(l, k)) || len(got) != api.MaxPairs {
			t.Errorf("Between of %v has %d, %d", c, len(got), e)
		}
	}
	for _, c := range [][2][]int{{{256}, {257}}, {{257}, {256}}, {{256, 1}, {256, 1}}, {{1, 256}, {1, 256}}, {{1 << 14}, {5}}, {{5}, {1 << 14}}, {{1 << 14}, {1 << 14}}} {
		got, e := sweep.Between(heaps(c[0]...), heaps(c[1]...))
		isRefused(t, got, e, "Between")
	}
	// Pairs within one list are none of Between.
	isBetween(t, [][2]int{{400, 0}}, heaps(400, 1), heaps(0, 1, 400))
}

func TestP13_4Longest(t *testing.T) {
	wrong := slices.Repeat([]api.Box{four(none, 0, 0, 0)}, api.MaxNodes+1)
	for _, long := range [][]api.Box{make([]api.Box, api.MaxNodes+1), wrong} {
		for _, other := range [][]api.Box{nil, wrong[:1], heaps(1), long} {
			got, e := sweep.Between(long, other)
			isRefused(t, got, e, "Between")
			got, e = sweep.Between(other, long)
			isRefused(t, got, e, "Between")
		}
	}
	isBetween(t, nil, wrong[:api.MaxNodes], wrong[:api.MaxNodes])
	for _, column := range []bool{false, true} {
		l := apart(api.MaxNodes, column)
		got, e := sweep.Between(l, l)
		if e != api.OK || len(got) != len(l) {
			t.Fatalf("Between has %d, %d", len(got), e)
		}
		for i, p := range got {
			if p != [2]int{i, i} {
				t.Fatalf("Between has %v at %d", p, i)
			}
		}
	}
}

// tell asks for what must be told without an error.
func tell[E any](t *testing.T, l []E, e api.Errno) []E {
	t.Helper()
	if e != api.OK {
		t.Fatalf("refused: %d", e)
	}
	return l
}

func TestP13_5WithAsPairs(t *testing.T) {
	overLists(1500, func(_ *source, l []api.Box) {
		got, e := sweep.Pairs(l)
		pairs := tell(t, got, e)
		for k, b := range l {
			got, e := sweep.With(l, b)
			with := tell(t, got, e)
			for i := range l {
				if i != k && slices.Contains(with, i) != slices.Contains(pairs, [2]int{min(i, k), max(i, k)}) {
					t.Fatalf("of %v With and Pairs do not agree about %d and %d", l, i, k)
				}
			}
			if slices.Contains(with, k) != mayBe(b) {
				t.Fatalf("With of %v tells %v of itself", b, with)
			}
		}
	})
}

func byNumbers(a, b [2]int) int { return slices.Compare(a[:], b[:]) }

func TestP13_5BetweenBothWays(t *testing.T) {
	overLists(3000, func(_ *source, l []api.Box) {
		got, e := sweep.Pairs(l)
		var want [][2]int
		for _, p := range tell(t, got, e) {
			want = append(want, p, [2]int{p[1], p[0]})
		}
		for i, b := range l {
			if mayBe(b) {
				want = append(want, [2]int{i, i})
			}
		}
		slices.SortFunc(want, byNumbers)
		isBetween(t, want, l, l)
	})
}

func TestP13_5AnotherOrder(t *testing.T) {
	overLists(3000, func(s *source, l []api.Box) {
		place := make([]int, len(l))
		other := slices.Clone(l)
		for i := range place {
			k := s.below(i + 1)
			place[i], place[k] = place[k], i
		}
		for at, i := range place {
			other[at] = l[i]
		}
		got, e := sweep.Pairs(other)
		var back [][2]int
		for _, p := range tell(t, got, e) {
			i, k := place[p[0]], place[p[1]]
			back = append(back, [2]int{min(i, k), max(i, k)})
		}
		slices.SortFunc(back, byNumbers)
		isPairs(t, back, l...)
	})
}

func sameBits(a, b api.Box) bool {
	for i, f := range floats(a) {
		if math.Float64bits(f) != math.Float64bits(floats(b)[i]) {
			return false
		}
	}
	return true
}

// roomy is a list with spare room, which must stay as it is too.
func roomy(l []api.Box) []api.Box {
	room := slices.Repeat([]api.Box{four(7, 7, 8, 8)}, len(l)+4)
	copy(room, l)
	return room[:len(l)]
}

func TestMemory(t *testing.T) {
	overLists(2000, func(s *source, l []api.Box) {
		l, k := roomy(l), roomy(s.list(20))
		keptL, keptK := slices.Clone(l[:cap(l)]), slices.Clone(k[:cap(k)])
		// What is answered may be written over, its spare room too, and is the same in the next call.
		for range 2 {
			pairs, _ := sweep.Pairs(l)
			with, _ := sweep.With(l, four(-1, -1, 9, 9))
			order, _ := sweep.Order(l)
			between, _ := sweep.Between(l, k)
			isList(t, pairs, api.OK, wantPairs(keptL[:len(l)]), "Pairs", keptL)
			isList(t, with, api.OK, wantWith(keptL[:len(l)], four(-1, -1, 9, 9)), "With", keptL)
			isList(t, order, api.OK, wantOrder(keptL[:len(l)]), "Order", keptL)
			isList(t, between, api.OK, wantBetween(keptL[:len(l)], keptK[:len(k)]), "Between", keptL, keptK)
			clear(pairs[:cap(pairs)])
			clear(with[:cap(with)])
			clear(order[:cap(order)])
			clear(between[:cap(between)])
		}
		if !slices.EqualFunc(l[:cap(l)], keptL, sameBits) || !slices.EqualFunc(k[:cap(k)], keptK, sameBits) {
			t.Fatalf("of %v or %v something was changed", keptL, keptK)
		}
	})
}

func TestExamples(t *testing.T) {
	a, b, c, d, n := four(0, 0, 2, 2), four(1, 1, 3, 3), four(2, 2, 4, 4), four(5, 0, 6, 9), four(0, 0, none, 2)
	isPairs(t, [][2]int{{0, 1}, {0, 2}, {1, 2}}, a, b, c, d)
	isPairs(t, [][2]int{{1, 3}, {1, 4}, {3, 4}}, d, c, n, b, a)
	isPairs(t, nil)
	isWith(t, []int{0, 2}, b, a, n, c, d)
	isWith(t, nil, n, a, b)
	isOrder(t, []int{3, 4, 1, 0}, d, b, n, a, a)
	isBetween(t, [][2]int{{0, 0}, {0, 2}}, []api.Box{a, d}, []api.Box{c, n, b})
	isPairs(t, nil, apart(1<<14, false)...)
	got, e := sweep.Pairs(apart(1<<14+1, false))
	isRefused(t, got, e, "Pairs")
	got, e = sweep.Pairs(slices.Repeat([]api.Box{a}, 363))
	isRefused(t, got, e, "Pairs")
}
