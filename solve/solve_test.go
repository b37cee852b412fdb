package solve_test

import (
	"math"
	"slices"
	"testing"

	"tumble/api"
	"tumble/rows"
	"tumble/solve"
)

// What follows says the words of this chapter and the last one once more, float by float.

func dot(a, b api.Vec) float64 { return float64(a.X*b.X) + float64(a.Y*b.Y) }

func isFinite(l ...float64) bool {
	for _, f := range l {
		if math.IsNaN(f) || math.IsInf(f, 0) {
			return false
		}
	}
	return true
}

func clamped(a, low, high float64) float64 {
	switch {
	case !(a > low):
		return low
	case a > high:
		return high
	}
	return a
}

func speedOf(r api.Row, a, b api.Still) float64 {
	sum := dot(r.WayA, a.Speed)
	sum = sum + float64(r.TurnA*a.Spin)
	sum = sum + dot(r.WayB, b.Speed)
	return sum + float64(r.TurnB*b.Spin)
}

func weightOf(r api.Row, a, b api.Still) float64 {
	sum := float64(a.Mass * dot(r.WayA, r.WayA))
	sum = sum + float64(a.Inertia*float64(r.TurnA*r.TurnA))
	sum = sum + float64(b.Mass*dot(r.WayB, r.WayB))
	return sum + float64(b.Inertia*float64(r.TurnB*r.TurnB))
}

func pushedBy(s api.Still, p float64, way api.Vec, turn float64) api.Still {
	if m := float64(s.Mass * p); s.Mass != 0 {
		s.Speed = v(s.Speed.X+float64(m*way.X), s.Speed.Y+float64(m*way.Y))
	}
	if s.Inertia != 0 {
		s.Spin = s.Spin + float64(s.Inertia*float64(p*turn))
	}
	return s
}

// push changes the two stills of a row.
func push(l []api.Still, r api.Row, p float64) {
	l[r.A], l[r.B] = pushedBy(l[r.A], p, r.WayA, r.TurnA), pushedBy(l[r.B], p, r.WayB, r.TurnB)
}

// tellEnds answers which case it was.
func tellEnds(l []api.Row, i int) string {
	r := &l[i]
	if r.Of < 0 {
		return "ends stay"
	}
	switch m := float64(r.Ratio * l[r.Of].Push); {
	case !(m > 0):
		r.Low, r.High = 0, 0
		return "ends nought"
	case math.IsInf(m, 1):
		r.Low, r.High = -inf, inf
		return "ends infinite"
	default:
		r.Low, r.High = -m, m
		return "ends told"
	}
}

func bound(r api.Row, i int) string {
	switch {
	case r.Of < 0:
		return "bound by none"
	case r.Of == i:
		return "bound by itself"
	case r.Of < i:
		return "bound by one ahead"
	}
	return "bound by one behind"
}

// turn is a row's: its case is answered.
func turn(l []api.Row, stills []api.Still, i int) string {
	r := &l[i]
	s, w := speedOf(*r, stills[r.A], stills[r.B]), weightOf(*r, stills[r.A], stills[r.B])
	lack := r.Bias - s
	q := clamped(r.Push+lack/w, r.Low, r.High)
	switch {
	case !canMove(stills[r.A]) && !canMove(stills[r.B]):
		return "none moves"
	case !(w > 0):
		return "weightless"
	case !isFinite(w, lack, q, q-r.Push):
		return "overflows"
	}
	push(stills, *r, q-r.Push)
	r.Push = q
	if q == r.Low || q == r.High {
		return "at an end"
	}
	return "solved"
}

// allOf is what All has to answer of what it takes.
func allOf(l []api.Row, stills []api.Still, rounds int, count map[string]int) ([]api.Row, []api.Still) {
	l, stills = slices.Clone(l), slices.Clone(stills)
	for _, r := range l {
		push(stills, r, r.Push)
	}
	for n := 0; n < rounds; n++ {
		for i := range l {
			count[bound(l[i], i)]++
			count[tellEnds(l, i)]++
			count[turn(l, stills, i)]++
		}
	}
	return l, stills
}

func leftOf(l []api.Row, stills []api.Still, count map[string]int) float64 {
	most := 0.0
	for _, r := range l {
		d := r.Bias - speedOf(r, stills[r.A], stills[r.B])
		w := weightOf(r, stills[r.A], stills[r.B])
		switch {
		case !(w > 0):
			count["weightless"]++
		case d < 0 && r.Push <= r.Low:
			count["at the low end"]++
		case d > 0 && r.Push >= r.High:
			count["at the high end"]++
		case math.IsNaN(d):
			count["no number"]++
		default:
			count["off"]++
			if math.Abs(d) > most {
				most = math.Abs(d)
			}
		}
	}
	return most
}

func apartOf(a, b []api.Row, stills []api.Still) bool {
	for _, r := range a {
		for _, p := range b {
			for _, n := range []int{r.A, r.B} {
				if (n == p.A || n == p.B) && canMove(stills[n]) {
					return false
				}
			}
		}
	}
	return true
}

func onlyOf(l []api.Row, bodies []int) ([]api.Row, []int) {
	var some []api.Row
	var had []int
	for i, r := range l {
		if slices.Contains(bodies, r.A) || slices.Contains(bodies, r.B) {
			some, had = append(some, r), append(had, i)
		}
	}
	for i := range some {
		some[i].Of = slices.Index(had, some[i].Of)
	}
	return some, had
}

func all(t *testing.T, l []api.Row, stills []api.Still, rounds int) ([]api.Row, []api.Still) {
	t.Helper()
	r, s, e := solve.All(l, stills, rounds)
	isErr(t, e, api.OK, "All", l, stills, rounds)
	return r, s
}

func left(t *testing.T, l []api.Row, stills []api.Still) float64 {
	t.Helper()
	f, e := solve.Left(l, stills)
	isErr(t, e, api.OK, "Left", l, stills)
	return f
}

func apart(t *testing.T, a, b []api.Row, stills []api.Still) bool {
	t.Helper()
	is, e := solve.Apart(a, b, stills)
	isErr(t, e, api.OK, "Apart", a, b, stills)
	return is
}

func only(t *testing.T, l []api.Row, bodies []int) ([]api.Row, []int) {
	t.Helper()
	some, had, e := solve.Only(l, bodies)
	isErr(t, e, api.OK, "Only", l, bodies)
	return some, had
}

// isAll holds All against what it has to answer.
func isAll(t *testing.T, l []api.Row, stills []api.Still, rounds int, wantRows []api.Row, wantStills []api.Still) {
	t.Helper()
	r, s := all(t, l, stills, rounds)
	if !sameRows(r, wantRows) || !sameStills(s, wantStills) {
		t.Fatalf("All(%v, %v, %d) is %v %v, not %v %v", l, stills, rounds, r, s, wantRows, wantStills)
	}
}

func TestExamples(t *testing.T) {
	n, p := api.Still{}, falling(-2)
	r := []api.Row{upward(0, 1)}
	l := []api.Still{n, p}
	isAll(t, r, l, 1, []api.Row{pushing(2)}, []api.Still{n, falling(0)})
	isAll(t, r, l, 0, r, l)
	isAll(t, []api.Row{pushing(3)}, l, 0, []api.Row{pushing(3)}, []api.Still{n, falling(1)})
	isAll(t, []api.Row{pushing(3)}, l, 1, []api.Row{pushing(2)}, []api.Still{n, falling(0)})
	if a, b, c := left(t, r, l), left(t, []api.Row{pushing(2)}, []api.Still{n, falling(0)}), left(t, r, []api.Still{n, n}); !same(a, 2) || !same(b, 0) || !same(c, 0) {
		t.Errorf("Left: %v %v %v", a, b, c)
	}
	if !apart(t, nil, r, l) || !apart(t, r, []api.Row{upward(0, 2)}, []api.Still{n, p, p}) || apart(t, r, r, l) {
		t.Error("Apart")
	}
	three := []api.Row{upward(0, 1), upward(2, 3), upward(3, 0)}
	if some, had := only(t, three, []int{3}); !sameRows(some, three[1:]) || !slices.Equal(had, []int{1, 2}) {
		t.Errorf("Only: %v %v", some, had)
	}
	of := r[0]
	of.Of = 1
	_, _, e := solve.All(r, l[:1], 1)
	isErr(t, e, api.ErrRow, "All")
	_, _, e = solve.All(r, l, 65)
	isErr(t, e, api.ErrRounds, "All")
	_, _, e = solve.All([]api.Row{of}, l, 1)
	isErr(t, e, api.ErrRow, "All")
}

// TestExampleDrag: a drag is bound by the push behind it as that stood a round ago.
func TestExampleDrag(t *testing.T) {
	p := falling(-2)
	p.Speed.X = 3
	drag := api.Row{A: 0, B: 1, WayA: v(-1, 0), WayB: v(1, 0), Of: 1, Ratio: 0.5, Low: -9, High: 9}
	first := drag
	first.Low, first.High = 0, 0
	slow := p
	slow.Speed = v(3, 0)
	isAll(t, []api.Row{drag, upward(0, 1)}, []api.Still{{}, p}, 1, []api.Row{first, pushing(2)}, []api.Still{{}, slow})
	second := drag
	second.Low, second.High, second.Push = -1, 1, -1
	slow.Speed = v(2, 0)
	isAll(t, []api.Row{drag, upward(0, 1)}, []api.Still{{}, p}, 2, []api.Row{second, pushing(2)}, []api.Still{{}, slow})
}

func TestP21_1All(t *testing.T) {
	s, count := source(1), map[string]int{}
	for i := range 6000 {
		stills := s.stills(2 + s.below(5))
		l := s.rows(s.below(8), len(stills))
		rounds := s.below(6)
		if i%50 == 0 {
			rounds = []int{0, api.MaxRounds - 1, api.MaxRounds, s.below(api.MaxRounds)}[s.below(4)]
		}
		wantRows, wantStills := allOf(l, stills, rounds, count)
		isAll(t, l, stills, rounds, wantRows, wantStills)
	}
	enough(t, count, 500, "bound by none", "bound by itself", "bound by one ahead", "bound by one behind",
		"ends stay", "ends nought", "ends told",
		"none moves", "weightless", "overflows", "at an end", "solved")
	enough(t, count, 30, "ends infinite")
}

// TestP21_1ManyRounds: rows of floats that do not overflow come ever nearer, and no round is left out.
func TestP21_1ManyRounds(t *testing.T) {
	s, late := source(2), 0
	for range 200 {
		stills := make([]api.Still, 3+s.below(4))
		for i := range stills {
			stills[i] = s.weighed(2)
		}
		l := make([]api.Row, 4+s.below(6))
		for i := range l {
			l[i] = s.tame(len(l), len(stills), 2)
		}
		before := stills
		for _, rounds := range []int{0, 1, 2, 31, 32, 63, 64} {
			wantRows, wantStills := allOf(l, stills, rounds, map[string]int{})
			isAll(t, l, stills, rounds, wantRows, wantStills)
			if rounds == api.MaxRounds && !sameStills(wantStills, before) {
				late++
			}
			before = wantStills
		}
	}
	if late < 50 {
		t.Errorf("so few were changed by the last round: %d", late)
	}
}

// TestP21_1Turns: the same by calls of package rows, which refuses none of them.
func TestP21_1Turns(t *testing.T) {
	s := source(3)
	for range 1500 {
		stills := s.stills(2 + s.below(4))
		l := s.rows(1+s.below(6), len(stills))
		rounds := s.below(5)
		wantRows, wantStills := slices.Clone(l), slices.Clone(stills)
		var e api.Errno
		for _, r := range wantRows {
			wantStills[r.A], wantStills[r.B], e = rows.Warm(r, wantStills[r.A], wantStills[r.B])
			isErr(t, e, api.OK, "Warm", r)
		}
		for range rounds {
			for i := range wantRows {
				tellEnds(wantRows, i)
				r := wantRows[i]
				wantRows[i], wantStills[r.A], wantStills[r.B], e = rows.One(r, wantStills[r.A], wantStills[r.B])
				isErr(t, e, api.OK, "One", r)
			}
		}
		isAll(t, l, stills, rounds, wantRows, wantStills)
	}
}

// bounded is a row that another one bounds.
func bounded(ratio float64) api.Row {
	return api.Row{A: 0, B: 1, WayA: v(-1, 0), WayB: v(1, 0), Of: 1, Ratio: ratio, Low: 5, High: 6}
}

func TestP21_1Ends(t *testing.T) {
	for _, c := range []struct {
		ratio, push float64
		low, high   float64
	}{
		{0.5, 4, -2, 2}, {1, tiny, -tiny, tiny}, {1, most, -most, most},
		{0, 4, 0, 0}, {minus, 4, 0, 0}, {minus, -4, 0, 0}, {3, 0, 0, 0}, {3, minus, 0, 0},
		{3, -4, 0, 0}, {2, -most, 0, 0}, {2, most, -inf, inf}, {most, most, -inf, inf},
		{0.5, tiny, 0, 0}, // the product is nought
	} {
		// Nothing can be moved: the other row's Push stays.
		r := []api.Row{bounded(c.ratio), pushing(c.push)}
		want := slices.Clone(r)
		want[0].Low, want[0].High = c.low, c.high
		stills := make([]api.Still, 2)
		isAll(t, r, stills, 1, want, stills)
		isAll(t, r, stills, 3, want, stills)
		isAll(t, r, stills, 0, r, stills)
	}
}

func TestP21_1Rounds(t *testing.T) {
	l, stills := []api.Row{upward(0, 1)}, []api.Still{{}, falling(-2)}
	for _, rounds := range []int{-1, -2, leastInt, api.MaxRounds + 1, 1 << 10, mostInt} {
		for _, r := range [][]api.Row{nil, l} {
			got, s, e := solve.All(r, stills, rounds)
			if e != api.ErrRounds || len(got) != 0 || len(s) != 0 {
				t.Errorf("All by %d rounds: %v %v %d", rounds, got, s, e)
			}
		}
	}
	for rounds := range api.MaxRounds + 1 {
		all(t, l, stills, rounds)
	}
	isAll(t, nil, nil, 0, nil, nil)
	isAll(t, nil, nil, api.MaxRounds, nil, nil)
}

// isRefused asks all calls that are Asked of rows and stills.
func isRefused(t *testing.T, l []api.Row, stills []api.Still, want api.Errno) {
	t.Helper()
	for _, rounds := range []int{0, 1, -1, api.MaxRounds + 1} {
		if r, s, e := solve.All(l, stills, rounds); e != want || len(r) != 0 || len(s) != 0 {
			t.Fatalf("All of %d rows, %d stills: %d, not %d", len(l), len(stills), e, want)
		}
	}
	if f, e := solve.Left(l, stills); e != want || !same(f, 0) {
		t.Fatalf("Left of %d rows, %d stills: %v %d, not %d", len(l), len(stills), f, e, want)
	}
	for _, other := range [][]api.Row{nil, l} {
		for _, two := range [][2][]api.Row{{l, other}, {other, l}} {
			if is, e := solve.Apart(two[0], two[1], stills); e != want || is {
				t.Fatalf("Apart of %d rows, %d stills: %v %d, not %d", len(l), len(stills), is, e, want)
			}
		}
	}
}

func TestP21_1Wrong(t *testing.T) {
	s := source(4)
	for range 4000 {
		stills := s.stills(2 + s.below(4))
		isRefused(t, s.wrong(1+s.below(4), len(stills)), stills, api.ErrRow)
		l := s.rows(s.below(4), len(stills))
		k := &stills[s.below(len(stills))]
		weight := []*float64{&k.Mass, &k.Inertia}[s.below(2)]
		*weight = s.pick(none, inf, -inf, -tiny, -1, -most)
		isRefused(t, l, stills, api.ErrRow)
	}
	isRefused(t, []api.Row{upward(0, 1)}, nil, api.ErrRow)
	isRefused(t, []api.Row{upward(0, 1)}, make([]api.Still, 1), api.ErrRow)
	isRefused(t, nil, []api.Still{{Mass: -1}}, api.ErrRow)
}

// many are rows without ways.
func many(n int) []api.Row {
	l := make([]api.Row, n)
	for i := range l {
		l[i] = api.Row{A: i % 2, B: 2, Of: -1}
	}
	return l
}

func TestP21_1Many(t *testing.T) {
	stills := make([]api.Still, api.MaxBodies)
	stills[2] = falling(-2)
	full := many(maxRows)
	full[maxRows-1] = upward(api.MaxBodies-1, 2)
	full[0].Of = maxRows - 1
	got, s := all(t, full, stills, 1)
	if len(got) != maxRows || len(s) != api.MaxBodies || !same(got[maxRows-1].Push, 2) || !same(s[2].Speed.Y, 0) {
		t.Error("All of as many as may be")
	}
	if f := left(t, full, stills); !same(f, 2) {
		t.Errorf("Left of as many as may be: %v", f)
	}
	if apart(t, full, full, stills) || !apart(t, full, nil, stills) {
		t.Error("Apart of as many as may be")
	}
	isRefused(t, many(maxRows+1), stills, api.ErrMany)
	isRefused(t, nil, make([]api.Still, api.MaxBodies+1), api.ErrMany)
	// What is too long is told ahead of what may not be.
	isRefused(t, make([]api.Row, maxRows+1), stills, api.ErrMany)
	if _, _, e := solve.All(make([]api.Row, maxRows+1), []api.Still{{Mass: -1}}, -1); e != api.ErrMany {
		t.Errorf("All of too many rows, of a still that may not be: %d", e)
	}
	wrong := make([]api.Still, api.MaxBodies+1)
	wrong[0].Mass = none
	isRefused(t, make([]api.Row, 1), wrong, api.ErrMany)
}

func TestP21_2Left(t *testing.T) {
	s, count := source(5), map[string]int{}
	for range 20000 {
		stills := s.stills(2 + s.below(4))
		l := s.rows(s.below(4), len(stills))
		for i := range l {
			switch r := &l[i]; s.below(6) {
			case 0:
				r.Push = clamped(r.Low, -most, most)
			case 1:
				r.Push = clamped(r.High, -most, most)
			}
		}
		if f, want := left(t, l, stills), leftOf(l, stills, count); !same(f, want) {
			t.Fatalf("Left(%v, %v) is %v, not %v", l, stills, f, want)
		}
	}
	enough(t, count, 200, "weightless", "at the low end", "at the high end", "no number", "off")
}

func TestP21_2Edges(t *testing.T) {
	next, before := math.Nextafter(1, 2), math.Nextafter(1, 0)
	row := func(bias, low, push, high float64) api.Row {
		r := pushing(push)
		r.Bias, r.Low, r.High = bias, low, high
		return r
	}
	at := func(speed float64) api.Still { return falling(speed) }
	for i, c := range []struct {
		r    api.Row
		s    api.Still
		want float64
	}{
		{row(0, 0, 0, inf), at(-2), 2},
		{row(0, 0, 0, inf), at(2), 0},
		{row(0, 0, 1, inf), at(2), 2},
		{row(0, 1, 1, inf), at(2), 0},
		{row(0, 1, before, inf), at(2), 0},
		{row(0, 1, next, inf), at(2), 2},
		{row(0, -inf, 1, 1), at(-2), 0},
		{row(0, -inf, next, 1), at(-2), 0},
		{row(0, -inf, before, 1), at(-2), 2},
		{row(3, 0, 0, inf), at(2), 1},
		{row(-3, 0, 0, inf), at(2), 0},
		{row(-3, -1, 0, inf), at(2), 5},
		{row(2, -1, 0, inf), at(2), 0},
		{row(0, -1, 0, inf), at(minus), 0},
		{row(minus, -1, 0, inf), at(0), 0},
		{row(0, -inf, 0, inf), at(none), 0},
		{row(0, -inf, 0, inf), at(inf), inf},
		{row(0, -inf, 0, inf), at(-inf), inf},
		{row(0, 0, 0, inf), at(inf), 0},
		{row(0, 0, 0, 0), at(none), 0},
		{row(most, -inf, 0, inf), at(-most), inf},
		{row(0, -inf, 0, inf), api.Still{Speed: v(0, 7)}, 0},
		{row(0, -inf, 0, inf), api.Still{Mass: tiny, Speed: v(0, 7)}, 7},
		{row(0, -inf, 0, inf), api.Still{Inertia: 1, Speed: v(0, 7)}, 0},
	} {
		if f := left(t, []api.Row{c.r}, []api.Still{{}, c.s}); !same(f, c.want) {
			t.Errorf("Left %d: %v, not %v", i, f, c.want)
		}
	}
	// The greatest of several, what is no number being passed over wherever it stands.
	r := []api.Row{upward(0, 1), upward(0, 2), upward(0, 3)}
	for _, l := range [][]api.Still{{{}, at(-1), at(-3), at(none)}, {{}, at(none), at(-1), at(-3)}, {{}, at(-3), at(none), at(-2)}} {
		if f := left(t, r, l); !same(f, 3) {
			t.Errorf("Left of %v: %v", l, f)
		}
	}
	if f := left(t, nil, nil); !same(f, 0) {
		t.Errorf("Left of nothing: %v", f)
	}
}

// TestP21_2Stand: a row's ends are taken as they stand in it, not told anew; a weight that is infinite is above nought.
func TestP21_2Stand(t *testing.T) {
	r := upward(0, 1)
	r.Of, r.Ratio, r.Low, r.High = 0, 0, 0, 5
	if f := left(t, []api.Row{r}, []api.Still{{}, falling(-2)}); !same(f, 2) {
		t.Errorf("Left by ends that would be nought: %v", f)
	}
	heavy := upward(0, 1)
	heavy.WayB = v(0, 0x1p600)
	if f := left(t, []api.Row{heavy}, []api.Still{{}, falling(-2)}); !same(f, 0x1p601) {
		t.Errorf("Left of an infinite weight: %v", f)
	}
	heavy.WayA, heavy.WayB = v(0, 0x1p600), v(0, 1)
	if f := left(t, []api.Row{heavy}, []api.Still{{}, falling(-2)}); !same(f, 0) {
		t.Errorf("Left of a weight that is no number: %v", f)
	}
}

func TestP21_3Apart(t *testing.T) {
	s, count := source(6), map[bool]int{}
	for range 20000 {
		stills := s.stills(2 + s.below(8))
		a, b := s.rows(s.below(4), len(stills)), s.rows(s.below(4), len(stills))
		is, want := apart(t, a, b, stills), apartOf(a, b, stills)
		if is != want || apart(t, b, a, stills) != want {
			t.Fatalf("Apart(%v, %v, %v) is %v", a, b, stills, is)
		}
		if len(a) > 0 && len(b) > 0 {
			count[is]++
		}
	}
	enough(t, count, 2000, true, false)
}

func TestP21_3Edges(t *testing.T) {
	one := []api.Row{upward(0, 1)}
	for i, c := range []struct {
		other  api.Row
		stills []api.Still
		want   bool
	}{
		{upward(0, 2), []api.Still{{}, falling(0), falling(0)}, true},
		{upward(0, 2), []api.Still{{Mass: tiny}, falling(0), falling(0)}, false},
		{upward(0, 2), []api.Still{{Inertia: tiny}, falling(0), falling(0)}, false},
		{upward(0, 2), []api.Still{{Mass: minus, Inertia: minus, Speed: v(none, 1)}, falling(0), falling(0)}, true},
		{upward(2, 0), []api.Still{{Mass: 1}, {}, {}}, false},
		{upward(2, 1), []api.Still{{}, {Mass: 1}, {}}, false},
		{upward(1, 2), []api.Still{{}, {Mass: 1}, {}}, false},
		{upward(1, 2), []api.Still{{Mass: 1}, {}, {Mass: 1}}, true},
		{upward(1, 0), []api.Still{{}, {}, {}}, true},
	} {
		if is := apart(t, one, []api.Row{c.other}, c.stills); is != c.want {
			t.Errorf("Apart %d: %v", i, is)
		}
	}
	if !apart(t, nil, nil, nil) || !apart(t, one, nil, make([]api.Still, 2)) {
		t.Error("Apart of nothing")
	}
}

// TestP21_3Errors: all of the first list is looked at ahead of the second one.
func TestP21_3Errors(t *testing.T) {
	good, bad, long := []api.Row{upward(0, 1)}, []api.Row{upward(0, 2)}, many(maxRows+1)
	two := make([]api.Still, 2)
	for i, c := range []struct {
		a, b   []api.Row
		stills []api.Still
		want   api.Errno
	}{
		{good, bad, two, api.ErrRow},
		{bad, good, two, api.ErrRow},
		{bad, long, two, api.ErrRow},
		{long, bad, two, api.ErrMany},
		{good, long, two, api.ErrMany},
		{good, long, []api.Still{{}, {Mass: -1}}, api.ErrRow},
		{nil, long, []api.Still{{Inertia: none}}, api.ErrRow},
		{bad, good, make([]api.Still, api.MaxBodies+1), api.ErrMany},
	} {
		if is, e := solve.Apart(c.a, c.b, c.stills); is || e != c.want {
			t.Errorf("Apart %d: %v %d, not %d", i, is, e, c.want)
		}
	}
	// Each list's Of counts its own rows.
	of := []api.Row{upward(0, 1), upward(0, 1)}
	of[0].Of = 1
	if _, e := solve.Apart(of, of[:1], two); e != api.ErrRow {
		t.Errorf("an Of beyond its own list: %d", e)
	}
}

func TestP21_4Only(t *testing.T) {
	s, count := source(7), map[string]int{}
	for range 20000 {
		stills := 2 + s.below(10)
		l := s.rows(s.below(12), stills)
		bodies := make([]int, s.below(4))
		for i := range bodies {
			bodies[i] = s.below(stills + 2)
			if s.below(9) == 0 {
				bodies[i] = []int{-1, leastInt, api.MaxBodies, api.MaxBodies - 1, mostInt}[s.below(5)]
			}
		}
		some, had := only(t, l, bodies)
		wantSome, wantHad := onlyOf(l, bodies)
		if !sameRows(some, wantSome) || !slices.Equal(had, wantHad) {
			t.Fatalf("Only(%v, %v) is %v %v, not %v %v", l, bodies, some, had, wantSome, wantHad)
		}
		for i, r := range some {
			switch of := l[had[i]].Of; {
			case of < 0:
				count["bound by none"]++
			case r.Of < 0:
				count["bound by one that is gone"]++
			case r.Of == of:
				count["bound by one that stayed"]++
			default:
				count["bound by one with another number"]++
			}
		}
	}
	enough(t, count, 1000, "bound by none", "bound by one that is gone", "bound by one that stayed", "bound by one with another number")
}

func TestP21_4Edges(t *testing.T) {
	last := api.MaxBodies - 1
	l := []api.Row{upward(last, 0), upward(0, last), upward(1, 2)}
	for i, c := range []struct {
		bodies []int
		want   []int
	}{
		{nil, nil}, {[]int{}, nil}, {[]int{last}, []int{0, 1}}, {[]int{2, 2, 1}, []int{2}}, {[]int{2, last}, []int{0, 1, 2}},
		{[]int{3}, nil}, {[]int{-1, api.MaxBodies, mostInt, leastInt}, nil}, {make([]int, api.MaxBodies), []int{0, 1}},
	} {
		if some, had := only(t, l, c.bodies); !slices.Equal(had, c.want) || len(some) != len(had) {
			t.Errorf("Only %d: %v %v", i, some, had)
		}
	}
	if some, had := only(t, nil, []int{1}); len(some) != 0 || len(had) != 0 {
		t.Errorf("Only of no rows: %v %v", some, had)
	}
}

func TestP21_4Errors(t *testing.T) {
	refused := func(l []api.Row, bodies []int, want api.Errno) {
		t.Helper()
		if some, had, e := solve.Only(l, bodies); e != want || len(some) != 0 || len(had) != 0 {
			t.Fatalf("Only(%v, %v) is %v %v %d, not %d", l, bodies, some, had, e, want)
		}
	}
	s := source(8)
	for range 4000 {
		refused(s.wrong(1+s.below(5), api.MaxBodies), []int{0, 1}, api.ErrRow)
	}
	refused([]api.Row{upward(0, api.MaxBodies)}, nil, api.ErrRow)
	refused([]api.Row{{}}, make([]int, api.MaxBodies+1), api.ErrMany)
	refused(nil, make([]int, api.MaxBodies+1), api.ErrMany)
	if _, _, e := solve.Only(make([]api.Row, maxRows+1), []int{0}); e != api.ErrMany {
		t.Errorf("Only of too many rows: %d", e)
	}
	full := many(maxRows)
	full[0].Of = maxRows - 1
	some, had := only(t, full, []int{0})
	if len(some) != maxRows/2 || len(had) != maxRows/2 || had[1] != 2 || some[0].Of != -1 {
		t.Errorf("Only of as many as may be: %d %d", len(some), len(had))
	}
}

// roomy has spare room behind a list, filled with something to be found again.
func roomy[T any](l []T, fill T) []T {
	whole := make([]T, len(l)+3)
	copy(whole, l)
	for i := len(l); i < len(whole); i++ {
		whole[i] = fill
	}
	return whole[:len(l)]
}

// spoil overwrites a list, with the room that it has.
func spoil[T any](l []T, with T) {
	l = l[:cap(l)]
	for i := range l {
		l[i] = with
	}
}

func TestP21_5Memory(t *testing.T) {
	s := source(9)
	badRow, badStill := api.Row{A: 77, Push: 77}, api.Still{Mass: 77}
	for range 500 {
		stills := roomy(s.stills(2+s.below(4)), badStill)
		l := roomy(s.rows(1+s.below(5), len(stills)), badRow)
		bodies := roomy([]int{s.below(4), s.below(4)}, 77)
		wholeRows, wholeStills, wholeBodies := slices.Clone(l[:cap(l)]), slices.Clone(stills[:cap(stills)]), slices.Clone(bodies[:cap(bodies)])
		isKept := func(call string) {
			t.Helper()
			if !sameRows(l[:cap(l)], wholeRows) || !sameStills(stills[:cap(stills)], wholeStills) || !slices.Equal(bodies[:cap(bodies)], wholeBodies) {
				t.Fatalf("%s changed what was handed in", call)
			}
		}
		for rounds := range 3 {
			got, moved := all(t, l, stills, rounds)
			wantRows, wantStills := slices.Clone(got), slices.Clone(moved)
			again, anew := all(t, l, stills, rounds)
			spoil(got, badRow)
			spoil(moved, badStill)
			isKept("All")
			if !sameRows(again, wantRows) || !sameStills(anew, wantStills) {
				t.Fatal("two answers of All share memory")
			}
		}
		left(t, l, stills)
		isKept("Left")
		apart(t, l, l, stills)
		isKept("Apart")
		some, had := only(t, l, bodies)
		wantHad := slices.Clone(had)
		again, anew := only(t, l, bodies)
		wantSome := slices.Clone(again)
		spoil(some, badRow)
		spoil(had, 77)
		isKept("Only")
		if !sameRows(again, wantSome) || !slices.Equal(anew, wantHad) {
			t.Fatal("two answers of Only share memory")
		}
	}
}
