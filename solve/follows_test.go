package solve_test

import (
	"math"
	"slices"
	"testing"

	"tumble/api"
	"tumble/solve"
)

// behind is one list and behind it another one, whose Of are counted on.
func behind(a, b []api.Row) []api.Row {
	l := slices.Clone(a)
	for _, r := range b {
		if r.Of >= 0 {
			r.Of += len(a)
		}
		l = append(l, r)
	}
	return l
}

// back is such a list's second part, counted back.
func back(l []api.Row, n int) []api.Row {
	l = slices.Clone(l[n:])
	for i := range l {
		if l[i].Of >= 0 {
			l[i].Of -= n
		}
	}
	return l
}

// named tells whether a row of the list is of a still.
func named(l []api.Row, n int) bool {
	return slices.ContainsFunc(l, func(r api.Row) bool { return r.A == n || r.B == n })
}

// within makes rows of some of the stills.
func (s *source) within(n int, stills []int) []api.Row {
	l := s.rows(n, len(stills))
	for i := range l {
		l[i].A, l[i].B = stills[l[i].A], stills[l[i].B]
	}
	return l
}

// TestP21_6Apart: it is what W2 stands on here.
func TestP21_6Apart(t *testing.T) {
	s, moved, still := source(11), 0, 0
	for range 4000 {
		// The first two can't be moved and are shared; the others are one list's or the other one's.
		stills := s.stills(8)
		for i := range 2 {
			stills[i].Mass, stills[i].Inertia = s.pick(0, minus), s.pick(0, minus)
		}
		a, b := s.within(s.below(6), []int{0, 1, 2, 3, 4}), s.within(s.below(6), []int{5, 1, 6, 0})
		if !apart(t, a, b, stills) {
			t.Fatal("they are not apart")
		}
		rounds := s.below(5)
		together, stillsOfBoth := all(t, behind(a, b), stills, rounds)
		first, stillsOfFirst := all(t, a, stills, rounds)
		second, stillsOfSecond := all(t, b, stills, rounds)
		if !sameRows(together[:len(a)], first) || !sameRows(back(together, len(a)), second) {
			t.Fatalf("All of %v and %v, %v: %v, not %v %v", a, b, stills, together, first, second)
		}
		for n, k := range stills {
			want := k
			switch {
			case !canMove(k):
				still++
			case named(a, n):
				want = stillsOfFirst[n]
				moved++
			case named(b, n):
				want = stillsOfSecond[n]
				moved++
			}
			if !sameStill(stillsOfBoth[n], want) {
				t.Fatalf("the still %d of All of %v and %v, %v: %v, not %v", n, a, b, stills, stillsOfBoth[n], want)
			}
		}
	}
	if moved < 5000 || still < 5000 {
		t.Errorf("so few: %d %d", moved, still)
	}
}

// TestP21_6Any: the same of any two lists of which Apart says so.
func TestP21_6Any(t *testing.T) {
	s, count := source(12), 0
	for range 6000 {
		stills := s.stills(4 + s.below(6))
		a, b := s.rows(1+s.below(3), len(stills)), s.rows(1+s.below(3), len(stills))
		if !apart(t, a, b, stills) {
			continue
		}
		count++
		rounds := 1 + s.below(3)
		together, both := all(t, behind(a, b), stills, rounds)
		turned, same := all(t, behind(b, a), stills, rounds)
		first, _ := all(t, a, stills, rounds)
		second, _ := all(t, b, stills, rounds)
		if !sameRows(together[:len(a)], first) || !sameRows(back(together, len(a)), second) {
			t.Fatalf("All of %v and %v, %v: %v, not %v %v", a, b, stills, together, first, second)
		}
		if !sameRows(turned[:len(b)], second) || !sameRows(back(turned, len(b)), first) || !sameStills(both, same) {
			t.Fatalf("All of %v and %v, %v, is another one the other way round", a, b, stills)
		}
	}
	if count < 500 {
		t.Errorf("so few were apart: %d", count)
	}
}

func TestP21_6NoRow(t *testing.T) {
	s, count := source(13), map[string]int{}
	for range 4000 {
		stills := s.stills(4 + s.below(6))
		l := s.rows(s.below(5), len(stills))
		got, moved := all(t, l, stills, s.below(5))
		for n := range stills {
			if named(l, n) && canMove(stills[n]) {
				continue
			}
			count["stays"]++
			if !sameStill(moved[n], stills[n]) {
				t.Fatalf("the still %d of All(%v, %v) is %v", n, l, stills, moved[n])
			}
		}
		for i, r := range l {
			if canMove(stills[r.A]) || canMove(stills[r.B]) {
				continue
			}
			count["none moves"]++
			if !sameBut(got[i], r) || got[i].A != r.A || got[i].B != r.B || got[i].Of != r.Of {
				t.Fatalf("the row %d of All(%v, %v) is %v", i, l, stills, got[i])
			}
			if r.Of < 0 && !sameRow(got[i], r) {
				t.Fatalf("the row %d of All(%v, %v) is %v", i, l, stills, got[i])
			}
		}
	}
	enough(t, count, 500, "stays", "none moves")
}

func TestP21_6Between(t *testing.T) {
	s, count := source(14), 0
	for range 6000 {
		stills := s.stills(2 + s.below(4))
		l := s.rows(1+s.below(5), len(stills))
		got, _ := all(t, l, stills, s.below(6))
		for i, r := range l {
			if r.Of >= 0 || !(r.Low <= r.Push && r.Push <= r.High) {
				continue
			}
			count++
			if !(r.Low <= got[i].Push && got[i].Push <= r.High) {
				t.Fatalf("the row %d of All(%v, %v) is pushed by %v", i, l, stills, got[i].Push)
			}
		}
	}
	if count < 3000 {
		t.Errorf("so few lay between: %d", count)
	}
}

func TestP21_6Warming(t *testing.T) {
	s := source(15)
	for range 3000 {
		stills := s.stills(2 + s.below(4))
		l := s.rows(s.below(5), len(stills))
		want := slices.Clone(stills)
		for _, r := range l {
			push(want, r, r.Push)
		}
		isAll(t, l, stills, 0, l, want)
		for i := range l {
			l[i].Push = s.pick(0, minus)
		}
		got, moved := all(t, l, stills, 0)
		if !sameRows(got, l) {
			t.Fatalf("All(%v, %v, 0) is %v", l, stills, got)
		}
		for i, k := range moved {
			if !sameButNought(k.Speed.X, stills[i].Speed.X) || !sameButNought(k.Speed.Y, stills[i].Speed.Y) || !sameButNought(k.Spin, stills[i].Spin) {
				t.Fatalf("All(%v, %v, 0) has %v", l, stills, k)
			}
		}
	}
}

// sameButNought lets a nought's sign be another one.
func sameButNought(a, b float64) bool { return same(a, b) || a == 0 && b == 0 }

// madeOf is what a row's speed is made of: its speeds without signs, times its ways and turns.
func madeOf(r api.Row, a, b api.Still) float64 {
	sum := 0.0
	for _, f := range []float64{r.WayA.X * a.Speed.X, r.WayA.Y * a.Speed.Y, r.TurnA * a.Spin, r.WayB.X * b.Speed.X, r.WayB.Y * b.Speed.Y, r.TurnB * b.Spin} {
		sum += math.Abs(f)
	}
	return sum
}

func TestP21_6Left(t *testing.T) {
	s, count := source(16), map[string]int{}
	for i := range 40000 {
		span := []int{40, 6}[i%2]
		r := s.tame(1, 2, span)
		r.Of, r.Bias, r.Low, r.High = -1, s.pick(0, minus), 0, inf
		// An impulse of before counts by the speeds that it makes: they are what the round begins with.
		r.Push = math.Abs(r.Push)
		if s.coin() {
			r.Push = 0
		}
		stills := []api.Still{s.weighed(span), s.weighed(span)}
		_, warmed := all(t, []api.Row{r}, stills, 0)
		got, moved := all(t, []api.Row{r}, stills, 1)
		ahead := madeOf(r, stills[r.A], stills[r.B])
		if r.Push != 0 {
			ahead += madeOf(r, warmed[r.A], warmed[r.B])
		}
		off := left(t, got, moved)
		if !(off <= 0x1p-30*ahead) {
			t.Fatalf("Left behind All(%v, %v, 1) is %v, of %v", r, stills, off, ahead)
		}
		switch {
		case left(t, []api.Row{r}, stills) > 0x1p-30*ahead:
			count["was off"]++
		default:
			count["was not off"]++
		}
	}
	enough(t, count, 5000, "was off", "was not off")
}

// TestW2Only: islands that are solved apart, by Only's rows, come out as in the whole.
func TestW2Only(t *testing.T) {
	s := source(17)
	for range 1000 {
		stills := s.stills(10)
		for i := range 3 {
			stills[i].Mass, stills[i].Inertia = 0, 0
		}
		islands := [][]int{{3, 4, 5}, {6, 7}, {8, 9}}
		// Rows of the islands, each among the others: an Of names a row of its own island.
		var l []api.Row
		var of []int
		for range 3 + s.below(12) {
			n := s.below(3)
			r := s.row(1, len(stills))
			r.A, r.B, r.Of = islands[n][s.below(2)], s.below(3), -1
			if s.coin() {
				r.B = islands[n][0]
				r.A = islands[n][1]
			}
			if at := slices.Index(of, n); at >= 0 && s.coin() {
				r.Of = at
			}
			l, of = append(l, r), append(of, n)
		}
		rounds := s.below(6)
		whole, moved := all(t, l, stills, rounds)
		var seen []api.Row
		for _, island := range islands {
			some, had := only(t, l, island)
			if !apart(t, seen, some, stills) {
				t.Fatal("islands that are not apart")
			}
			seen = behind(seen, some)
			alone, movedAlone := all(t, some, stills, rounds)
			for i, n := range had {
				want := whole[n]
				want.Of = alone[i].Of
				if !sameRow(alone[i], want) {
					t.Fatalf("the row %d of %v is %v alone, not %v", n, l, alone[i], want)
				}
			}
			for _, n := range island {
				if !sameStill(movedAlone[n], moved[n]) {
					t.Fatalf("the still %d of %v is %v alone, not %v", n, l, movedAlone[n], moved[n])
				}
			}
		}
		if len(seen) != len(l) {
			t.Fatalf("%d of %d rows", len(seen), len(l))
		}
	}
}

// TestR2Again: the same is answered again.
func TestR2Again(t *testing.T) {
	s := source(18)
	for range 300 {
		stills := s.stills(5)
		l := s.rows(6, 5)
		a, b, e := solve.All(l, stills, 9)
		isErr(t, e, api.OK, "All", l, stills)
		isAll(t, l, stills, 9, a, b)
	}
}
