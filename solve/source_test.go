package solve_test

import (
	"math"
	"slices"
	"testing"

	"tumble/api"
)

var (
	minus = math.Copysign(0, -1)
	none  = math.NaN()
	inf   = math.Inf(1)
	most  = math.MaxFloat64
	tiny  = math.SmallestNonzeroFloat64
)

const (
	leastInt = math.MinInt
	mostInt  = math.MaxInt
	maxRows  = 1 << 20
)

func v(x, y float64) api.Vec { return api.Vec{X: x, Y: y} }

// upward is the chapter's row R, of any two stills.
func upward(a, b int) api.Row {
	return api.Row{A: a, B: b, WayA: v(0, -1), WayB: v(0, 1), High: inf, Of: -1}
}

// pushing is that row with a Push.
func pushing(push float64) api.Row {
	r := upward(0, 1)
	r.Push = push
	return r
}

// falling is the chapter's still P, at any speed upward.
func falling(speed float64) api.Still {
	return api.Still{Mass: 1, Inertia: 0.5, Speed: v(0, speed)}
}

// floats are pointers to those of a row's that must be finite: the last one must not be below nought.
func floats(r *api.Row) []*float64 {
	return []*float64{&r.WayA.X, &r.WayA.Y, &r.WayB.X, &r.WayB.Y, &r.TurnA, &r.TurnB, &r.Bias, &r.Push, &r.Ratio}
}

// same is told by bits.
func same(a, b float64) bool {
	if math.IsNaN(a) || math.IsNaN(b) {
		return math.IsNaN(a) && math.IsNaN(b)
	}
	return math.Float64bits(a) == math.Float64bits(b)
}

func sameVec(a, b api.Vec) bool { return same(a.X, b.X) && same(a.Y, b.Y) }

// sameBut tells of all of a row but its ends and the numbers.
func sameBut(a, b api.Row) bool {
	l, m := floats(&a), floats(&b)
	for i := range l {
		if !same(*l[i], *m[i]) {
			return false
		}
	}
	return true
}

func sameRow(a, b api.Row) bool {
	return sameBut(a, b) && a.A == b.A && a.B == b.B && a.Of == b.Of && same(a.Low, b.Low) && same(a.High, b.High)
}

func sameRows(a, b []api.Row) bool { return slices.EqualFunc(a, b, sameRow) }

func sameStill(a, b api.Still) bool {
	return same(a.Mass, b.Mass) && same(a.Inertia, b.Inertia) && sameVec(a.Speed, b.Speed) && same(a.Spin, b.Spin)
}

func sameStills(a, b []api.Still) bool { return slices.EqualFunc(a, b, sameStill) }

func canMove(s api.Still) bool { return s.Mass > 0 || s.Inertia > 0 }

func isErr(t *testing.T, got, want api.Errno, call string, args ...any) {
	t.Helper()
	if got != want {
		t.Fatalf("%s%v tells %d, not %d", call, args, got, want)
	}
}

// enough tells of each kind whether it came up so often.
func enough[K comparable](t *testing.T, count map[K]int, least int, kinds ...K) {
	t.Helper()
	for _, k := range kinds {
		if count[k] < least {
			t.Errorf("too few of %v: %v", k, count)
		}
	}
}

// source makes things from a rule of whole numbers: the same ones in each run.
type source uint64

func (s *source) next() uint64 {
	*s = *s*6364136223846793005 + 1442695040888963407
	return uint64(*s >> 31)
}

func (s *source) below(n int) int { return int(s.next() % uint64(n)) }

func (s *source) coin() bool { return s.below(2) == 0 }

// part is from 0 to 1.
func (s *source) part() float64 { return float64(s.next()&(1<<30-1)) / (1 << 30) }

func (s *source) pick(l ...float64) float64 { return l[s.below(len(l))] }

// sized is a float with all of its digits, without its sign from 2^-least to nearly 2^most; at times nought.
func (s *source) sized(least, most int) float64 {
	if s.below(8) == 0 {
		return s.pick(0, minus)
	}
	f := math.Ldexp(1+s.part()+s.part()*0x1p-30, s.below(least+most)-least)
	if f >= math.Ldexp(1, most) {
		f = math.Ldexp(1, most-1)
	}
	if s.coin() {
		f = -f
	}
	return f
}

// finite is any: great, small, from among those that people write, seldom so that it overflows.
func (s *source) finite() float64 {
	switch s.below(48) {
	case 0:
		return s.pick(most, -most, 0x1p600, -0x1p600, 0x1p-600, tiny, -tiny, 0x1p1000)
	case 1, 2, 3, 4, 5, 6, 7, 8:
		return s.pick(0, minus, 1, -1, 2, -2, 0.5, 3)
	case 9:
		return s.sized(40, 40)
	}
	return s.sized(3, 4)
}

// any may be no number, or infinite.
func (s *source) any() float64 {
	if s.below(48) == 0 {
		return s.pick(none, inf, -inf)
	}
	return s.finite()
}

// ends are in order: none, one or both of them infinite.
func (s *source) ends() (float64, float64) {
	low, high := s.finite(), s.finite()
	switch s.below(4) {
	case 0:
		return -inf, inf
	case 1:
		return 0, inf
	case 2:
		return s.pick(-inf, inf, low), inf
	}
	return min(low, high), max(low, high)
}

// two are unlike, below n.
func (s *source) two(n int) (int, int) {
	a, b := s.below(n), s.below(n-1)
	if b >= a {
		b++
	}
	return a, b
}

// row is one that may be among so many rows and stills.
func (s *source) row(rows, stills int) api.Row {
	r := api.Row{Of: -1}
	r.A, r.B = s.two(stills)
	if s.below(3) == 0 {
		r.Of = s.below(rows)
	}
	for _, f := range floats(&r) {
		*f = s.finite()
	}
	r.Ratio = math.Abs(r.Ratio)
	r.Low, r.High = s.ends()
	return r
}

func (s *source) rows(n, stills int) []api.Row {
	l := make([]api.Row, n)
	for i := range l {
		l[i] = s.row(n, stills)
	}
	return l
}

// still is one that may be.
func (s *source) still() api.Still {
	l := api.Still{Mass: math.Abs(s.finite()), Inertia: math.Abs(s.finite()), Speed: v(s.any(), s.any()), Spin: s.any()}
	switch s.below(6) {
	case 0, 1:
		l.Mass, l.Inertia = s.pick(0, minus), s.pick(0, minus)
	case 2:
		l.Mass = s.pick(0, minus)
	case 3:
		l.Inertia = s.pick(0, minus)
	}
	return l
}

func (s *source) stills(n int) []api.Still {
	l := make([]api.Still, n)
	for i := range l {
		l[i] = s.still()
	}
	return l
}

// tame is a row whose floats are nought or, without their signs, from 2^-span to 2^span, and whose Push lies between its ends.
func (s *source) tame(rows, stills, span int) api.Row {
	r := s.row(rows, stills)
	for _, f := range floats(&r) {
		*f = s.sized(span, span)
	}
	ends := []float64{r.Push, s.sized(span, span), s.sized(span, span)}
	slices.Sort(ends)
	r.Low, r.Push, r.High, r.Ratio = ends[0], ends[1], ends[2], math.Abs(r.Ratio)
	if s.coin() {
		r.Low, r.Push, r.High = 0, math.Abs(r.Push), inf
	}
	return r
}

// weighed is such a still.
func (s *source) weighed(span int) api.Still {
	f := func() float64 { return s.sized(span, span) }
	l := api.Still{Mass: math.Abs(f()), Inertia: math.Abs(f()), Speed: v(f(), f()), Spin: f()}
	if s.below(4) == 0 {
		l.Mass, l.Inertia = 0, minus
	}
	return l
}

// wrong is a list of rows one of which may not be among so many stills.
func (s *source) wrong(n, stills int) []api.Row {
	l := s.rows(n, stills)
	r := &l[s.below(n)]
	switch s.below(8) {
	case 0:
		r.A = s.worst(stills)
	case 1:
		r.B = s.worst(stills)
	case 2:
		r.A = r.B
	case 3:
		r.Of = []int{-2, leastInt, n, n + 1, mostInt}[s.below(5)]
	case 4:
		r.Ratio = s.pick(-tiny, -1, none, inf, -inf)
	case 5:
		*floats(r)[s.below(9)] = s.pick(none, inf, -inf)
	case 6:
		r.Low, r.High = 1, s.pick(minus, -1, 0.5, -inf, none)
	case 7:
		r.Low, r.High = s.pick(none, inf), s.pick(none, 1)
	}
	return l
}

// worst is no number of so many stills.
func (s *source) worst(stills int) int {
	return []int{-1, leastInt, stills, stills + 1, mostInt}[s.below(5)]
}
