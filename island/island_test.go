package island_test

import (
	"math"
	"slices"
	"testing"

	"tumble/api"
	"tumble/island"
)

// What follows says the chapter's words once more, one by one.

func isFinite(l ...float64) bool {
	return !slices.ContainsFunc(l, func(f float64) bool { return math.IsNaN(f) || math.IsInf(f, 0) })
}

func isWild(b api.Body) bool {
	return !isFinite(b.Frame.At.X, b.Frame.At.Y, real(b.Frame.Turn), imag(b.Frame.Turn), b.Speed.X, b.Speed.Y, b.Spin)
}

func isFree(w api.State, slot int) bool {
	return w.Bodies[slot].Live && w.Bodies[slot].Body.Kind == 3
}

// holds tells whether a touch or a joint with these bodies can be an island's.
func holds(w api.State, a, b int) bool {
	return !isWild(w.Bodies[a].Body) && !isWild(w.Bodies[b].Body)
}

func areLinked(w api.State, a, b int) bool {
	if !isFree(w, a) || !isFree(w, b) || !holds(w, a, b) {
		return false
	}
	for _, t := range w.Touches {
		if !t.Sensor && t.Pair.A == a && t.Pair.B == b {
			return true
		}
	}
	for _, j := range w.Joints {
		x, y := int(j.Joint.A.Slot), int(j.Joint.B.Slot)
		if j.Live && (x == a && y == b || x == b && y == a) {
			return true
		}
	}
	return false
}

func wantLinks(w api.State) [][2]int {
	var l [][2]int
	for a := range w.Bodies {
		for b := a + 1; b < len(w.Bodies); b++ {
			if areLinked(w, a, b) {
				l = append(l, [2]int{a, b})
			}
		}
	}
	return l
}

// wantJoin spreads the least ones over links until nothing changes.
func wantJoin(n int, links [][2]int) []int {
	l := make([]int, n)
	for i := range l {
		l[i] = i
	}
	for is := true; is; {
		is = false
		for _, k := range links {
			a, b := k[0], k[1]
			if l[a] > l[b] {
				l[a], is = l[b], true
			}
			if l[b] > l[a] {
				l[b], is = l[a], true
			}
		}
	}
	return l
}

func wantOf(w api.State) [][]int {
	leasts := wantJoin(len(w.Bodies), wantLinks(w))
	var l [][]int
	for first := range w.Bodies {
		var one []int
		for slot := range w.Bodies {
			if isFree(w, slot) && leasts[slot] == first {
				one = append(one, slot)
			}
		}
		if len(one) > 0 {
			l = append(l, one)
		}
	}
	return l
}

func wantTouches(w api.State, one []int) []int {
	var l []int
	for i, t := range w.Touches {
		a, b := t.Pair.A, t.Pair.B
		if !t.Sensor && holds(w, a, b) && (slices.Contains(one, a) || slices.Contains(one, b)) {
			l = append(l, i)
		}
	}
	return l
}

func wantJoints(w api.State, one []int) []int {
	var l []int
	for i, j := range w.Joints {
		if !j.Live {
			continue
		}
		a, b := int(j.Joint.A.Slot), int(j.Joint.B.Slot)
		if holds(w, a, b) && (slices.Contains(one, a) || slices.Contains(one, b)) {
			l = append(l, i)
		}
	}
	return l
}

// second has the chapter's third row.
func second() api.State {
	w := first()
	w.Touches = []api.Touch{touch(0, 2), sensing(1, 2)}
	w.Joints = []api.JointSlot{joined(w, 4, 0)}
	return w
}

func TestExamples(t *testing.T) {
	fixed, wild := first(), second()
	fixed.Touches = []api.Touch{touch(0, 3), touch(2, 3)}
	wild.Bodies[2].Body.Speed.X = inf
	for i, c := range []struct {
		w     api.State
		links [][2]int
		of    [][]int
	}{
		{first(), nil, [][]int{{0}, {1}, {2}, {4}}},
		{fixed, nil, [][]int{{0}, {1}, {2}, {4}}},
		{second(), [][2]int{{0, 2}, {0, 4}}, [][]int{{0, 2, 4}, {1}}},
		{wild, [][2]int{{0, 4}}, [][]int{{0, 4}, {1}, {2}}},
	} {
		if l := links(t, c.w); !slices.Equal(l, c.links) {
			t.Errorf("Links %d: %v", i, l)
		}
		if l := of(t, c.w); !sameLists(l, c.of) {
			t.Errorf("Of %d: %v", i, l)
		}
	}
	toFree, wrongWay, gone := first(), first(), first()
	toFree.Touches = []api.Touch{touch(0, 5)}
	wrongWay.Touches = []api.Touch{touch(2, 1)}
	gone.Joints = []api.JointSlot{joined(gone, 0, 1)}
	gone.Joints[0].Joint.B.Use--
	for _, w := range []api.State{toFree, wrongWay, gone} {
		refused(t, w, api.ErrGraph, []int{0})
	}
	if l := touches(t, second(), []int{0, 2, 4}); !slices.Equal(l, []int{0}) {
		t.Error(l)
	}
	if l := touches(t, second(), []int{1}); len(l) != 0 {
		t.Error(l)
	}
	refusedIsland(t, second(), api.ErrArg, []int{0, 2})
	if l := joints(t, second(), []int{0, 2, 4}); !slices.Equal(l, []int{0}) {
		t.Error(l)
	}
	if l := touches(t, fixed, []int{0}); !slices.Equal(l, []int{0}) {
		t.Error(l)
	}
	if l := join(t, 5, [][2]int{{3, 1}, {4, 3}}); !slices.Equal(l, []int{0, 1, 2, 1, 1}) {
		t.Error(l)
	}
	if l := join(t, 0, nil); len(l) != 0 {
		t.Error(l)
	}
	for _, c := range []struct {
		n     int
		links [][2]int
		want  api.Errno
	}{{2, [][2]int{{0, 2}}, api.ErrGraph}, {-1, nil, api.ErrArg}} {
		if l, e := island.Join(c.n, c.links); e != c.want || len(l) != 0 {
			t.Error(c, l, e)
		}
	}
}

func TestP22_1Links(t *testing.T) {
	s, count := source(1), map[string]int{}
	for range 20000 {
		w := s.small()
		got, want := links(t, w), wantLinks(w)
		if !slices.Equal(got, want) {
			t.Fatalf("Links of %v is %v, not %v", w, got, want)
		}
		count["links"] += len(want)
		count["touches and joints"] += len(w.Touches) + len(w.Joints)
	}
	enough(t, count, 10000, "links")
	enough(t, count, 60000, "touches and joints")
}

// TestP22_1Order: by the first one, then by the second one, none twice, however the links come.
func TestP22_1Order(t *testing.T) {
	w := frees(12)
	w.Touches = []api.Touch{touch(3, 10), touch(3, 9), touch(3, 10), touch(2, 11), touch(0, 1), sensing(5, 6)}
	w.Joints = []api.JointSlot{joined(w, 9, 3), joined(w, 3, 9), joined(w, 11, 0), joined(w, 0, 10), joined(w, 7, 7), {}, joined(w, 2, 3)}
	want := [][2]int{{0, 1}, {0, 10}, {0, 11}, {2, 3}, {2, 11}, {3, 9}, {3, 10}}
	if l := links(t, w); !slices.Equal(l, want) {
		t.Error(l)
	}
	if l := links(t, api.State{}); len(l) != 0 {
		t.Error(l)
	}
}

// TestP22_1Kinds: of two bodies that touch, or are joined, just two Free ones are linked.
func TestP22_1Kinds(t *testing.T) {
	for _, a := range []uint8{1, 2, 3, 4, 255} {
		for _, b := range []uint8{1, 2, 3, 4, 255} {
			touched := state(a, b)
			touched.Touches = []api.Touch{touch(0, 1)}
			held := state(a, b)
			held.Joints = []api.JointSlot{joined(held, 0, 1)}
			for _, w := range []api.State{touched, held} {
				if is := len(links(t, w)) == 1; is != (a == api.Free && b == api.Free) {
					t.Error(a, b, is)
				}
			}
		}
	}
}

// TestP22_1Wild: each float of Frame, Speed and Spin makes a body wild, those of Force and Torque do not.
func TestP22_1Wild(t *testing.T) {
	for slot := range 2 {
		for i := range motion {
			for _, f := range []float64{none, inf, -inf} {
				w := frees(2)
				w.Touches = []api.Touch{touch(0, 1)}
				w.Joints = []api.JointSlot{joined(w, 1, 0)}
				set(&w.Bodies[slot].Body, i, f)
				isLinked, linkedOf := len(links(t, w)) == 1, len(of(t, w)) == 1
				if isLinked != (i >= wildest) || linkedOf != isLinked {
					t.Error(slot, i, f, isLinked, linkedOf)
				}
				// The wild one's island is its own, and has nothing.
				if i < wildest && (len(touches(t, w, []int{slot})) != 0 || len(joints(t, w, []int{1 - slot})) != 0) {
					t.Error(slot, i, f)
				}
			}
		}
	}
}

func TestP22_2Of(t *testing.T) {
	s, count := source(2), map[int]int{}
	for range 20000 {
		w := s.small()
		got, want := of(t, w), wantOf(w)
		if !sameLists(got, want) {
			t.Fatalf("Of of %v is %v, not %v", w, got, want)
		}
		for _, l := range want {
			count[len(l)]++
		}
	}
	enough(t, count, 300, 1, 2, 3, 4, 5)
}

// TestP22_2Each: each Free body is in one island, no other body is in any.
func TestP22_2Each(t *testing.T) {
	s := source(3)
	for range 3000 {
		w := s.state(s.below(40), s.below(30), s.below(30))
		var in []int
		last := -1
		for _, l := range of(t, w) {
			if len(l) == 0 || l[0] <= last || !slices.IsSorted(l) {
				t.Fatalf("an island out of its order: %v", l)
			}
			last = l[0]
			in = append(in, l...)
		}
		slices.Sort(in)
		var want []int
		for slot := range w.Bodies {
			if isFree(w, slot) {
				want = append(want, slot)
			}
		}
		if !slices.Equal(in, want) {
			t.Fatalf("islands of %v, not of %v", in, want)
		}
	}
}

// crowd has as many of all as may be: no two touches and joints have the same bodies.
func crowd() api.State {
	w := frees(api.MaxBodies)
	a, b := 0, 1
	next := func() (int, int) {
		x, y := a, b
		if b++; b == api.MaxBodies {
			a++
			b = a + 1
		}
		return x, y
	}
	for range api.MaxPairs {
		w.Touches = append(w.Touches, touch(next()))
	}
	for range api.MaxJoints {
		x, y := next()
		w.Joints = append(w.Joints, joined(w, y, x))
	}
	return w
}

// TestP22_2Most: more links than Join takes are no fault of a state's.
func TestP22_2Most(t *testing.T) {
	w := crowd()
	if l := links(t, w); len(l) != api.MaxPairs+api.MaxJoints || l[len(l)-1] != [2]int{67, 297} {
		t.Errorf("%d links, the last one %v", len(l), l[len(l)-1])
	}
	l := of(t, w)
	if len(l) != 1 || len(l[0]) != api.MaxBodies {
		t.Fatalf("%d islands", len(l))
	}
	if got := touches(t, w, l[0]); len(got) != api.MaxPairs || got[api.MaxPairs-1] != api.MaxPairs-1 {
		t.Errorf("%d touches", len(got))
	}
	if got := joints(t, w, l[0]); len(got) != api.MaxJoints || got[api.MaxJoints-1] != api.MaxJoints-1 {
		t.Errorf("%d joints", len(got))
	}
}

// TestP22_2Chain: bodies that hang together by many links, from the last one on.
func TestP22_2Chain(t *testing.T) {
	w := frees(api.MaxBodies)
	for i := api.MaxBodies - 2; i >= 0; i-- {
		if i%2 == 0 {
			w.Touches = append(w.Touches, touch(i, i+1))
		} else {
			w.Joints = append(w.Joints, joined(w, i+1, i))
		}
	}
	if l := of(t, w); len(l) != 1 || len(l[0]) != api.MaxBodies {
		t.Errorf("%d islands", len(l))
	}
	w.Bodies[500].Body.Kind = api.Moved
	if l := of(t, w); len(l) != 2 || len(l[0]) != 500 || len(l[1]) != api.MaxBodies-501 || l[1][0] != 501 {
		t.Errorf("%d islands", len(l))
	}
}

func TestP22_3TouchesJoints(t *testing.T) {
	s, count := source(4), map[string]int{}
	for range 20000 {
		w := s.small()
		for _, one := range wantOf(w) {
			got, want := touches(t, w, one), wantTouches(w, one)
			if !slices.Equal(got, want) {
				t.Fatalf("Touches of %v of %v is %v, not %v", one, w, got, want)
			}
			count["touches"] += len(want)
			got, want = joints(t, w, one), wantJoints(w, one)
			if !slices.Equal(got, want) {
				t.Fatalf("Joints of %v of %v is %v, not %v", one, w, got, want)
			}
			count["joints"] += len(want)
		}
	}
	enough(t, count, 20000, "touches", "joints")
}

// TestP22_3Known: what an island has with bodies that are in none, and with itself.
func TestP22_3Known(t *testing.T) {
	w := state(api.Fixed, api.Free, api.Moved, api.Free, api.Free, api.Fixed, 4)
	w.Touches = []api.Touch{touch(2, 3), touch(0, 1), sensing(0, 1), touch(1, 3), touch(0, 4), touch(0, 2), touch(3, 5), touch(1, 6)}
	w.Joints = []api.JointSlot{joined(w, 2, 4), {}, joined(w, 3, 0), joined(w, 1, 5), joined(w, 4, 4), joined(w, 0, 2), joined(w, 6, 4)}
	w.Bodies[5].Body.Frame.At.X = none
	for i, c := range []struct{ island, touches, joints []int }{
		{[]int{1, 3}, []int{0, 1, 3, 7}, []int{2}},
		{[]int{4}, []int{4}, []int{0, 4, 6}},
	} {
		if l := touches(t, w, c.island); !slices.Equal(l, c.touches) {
			t.Errorf("Touches %d: %v", i, l)
		}
		if l := joints(t, w, c.island); !slices.Equal(l, c.joints) {
			t.Errorf("Joints %d: %v", i, l)
		}
	}
	if l := of(t, w); !sameLists(l, [][]int{{1, 3}, {4}}) {
		t.Error(l)
	}
	if l := links(t, w); !slices.Equal(l, [][2]int{{1, 3}}) {
		t.Error(l)
	}
}

func TestP22_3Arg(t *testing.T) {
	for _, l := range [][]int{
		nil, {}, {0}, {2}, {4}, {0, 2}, {2, 4}, {0, 4}, {0, 1, 2, 4}, {2, 0, 4}, {0, 4, 2}, {0, 0, 2, 4}, {0, 2, 4, 4}, {1, 1}, {3}, {5}, {6}, {0, 2, 4, 5},
		{-1}, {mostInt}, {leastInt}, {0, 2, 4, mostInt}, {1, 1 << 20}, {1025}, make([]int, api.MaxBodies), make([]int, 1<<17),
	} {
		refusedIsland(t, second(), api.ErrArg, l)
	}
	refusedIsland(t, api.State{}, api.ErrArg, nil)
	refusedIsland(t, state(api.Fixed, api.Moved, 0), api.ErrArg, []int{0})
	s, count := source(5), map[string]int{}
	for range 20000 {
		w := s.small()
		one := make([]int, s.below(4))
		for i := range one {
			one[i] = s.below(len(w.Bodies) + 1)
		}
		isOne := slices.ContainsFunc(wantOf(w), func(l []int) bool { return slices.Equal(l, one) })
		if isOne {
			count["is one"]++
			touches(t, w, one)
			joints(t, w, one)
			continue
		}
		count["is none"]++
		refusedIsland(t, w, api.ErrArg, one)
	}
	enough(t, count, 500, "is one", "is none")
}

// TestHangsRight: each way in which a state may not hang right, alone.
func TestHangsRight(t *testing.T) {
	for i, p := range [][2]int{
		{0, 0}, {1, 0}, {-1, 0}, {-1, 6}, {0, 6}, {0, 7}, {5, 6}, {0, 5}, {5, 5}, {3, 3}, {4, 3}, {leastInt, mostInt}, {leastInt, 1}, {0, mostInt}, {mostInt, leastInt}, {0, 1 << 32},
	} {
		for _, isSensor := range []bool{false, true} {
			w := second()
			w.Touches = append(w.Touches, api.Touch{Pair: api.Pair{A: p[0], PartA: 1, B: p[1], PartB: 2}, Sensor: isSensor})
			if l, e := island.Of(w); e != api.ErrGraph || l != nil {
				t.Errorf("touch %d: %v %d", i, l, e)
			}
			refused(t, w, api.ErrGraph, []int{1})
		}
	}
	for i, h := range []api.Handle{
		{}, {Slot: 0, Use: 0}, {Slot: 0, Use: 2}, {Slot: 1, Use: 1}, {Slot: 3, Use: 3}, {Slot: 5, Use: 6}, {Slot: 6}, {Slot: 6, Use: 1}, {Slot: 1 << 31, Use: 1}, {Slot: 1<<32 - 1, Use: 1<<32 - 1}, {Slot: 0, Use: 1<<32 - 1},
	} {
		for side := range 2 {
			w := second()
			j := joined(w, 1, 2)
			*[]*api.Handle{&j.Joint.A, &j.Joint.B}[side] = h
			w.Joints = append(w.Joints, j)
			if l, e := island.Links(w); e != api.ErrGraph || l != nil {
				t.Errorf("handle %d: %v %d", i, l, e)
			}
			refused(t, w, api.ErrGraph, []int{1})
			// A joint that lies in no slot names nothing.
			w.Joints[len(w.Joints)-1].Live = false
			if l := of(t, w); !sameLists(l, [][]int{{0, 2, 4}, {1}}) {
				t.Errorf("handle %d: %v", i, l)
			}
		}
	}
}

// TestNotLookedAt: no more is asked of a state than that it hangs right.
func TestNotLookedAt(t *testing.T) {
	// A slot that is used by no count, and handles of it.
	w := frees(3)
	w.Bodies[0].Use, w.Bodies[2].Use = 0, 1<<32-1
	w.Joints = []api.JointSlot{joined(w, 0, 2)}
	w.Joints[0].Use, w.Joints[0].Joint.Kind = 0, 99
	w.Joints[0].Joint.AtA = v(none, inf)
	// Touches in no order, twice, of parts that there are not.
	w.Touches = []api.Touch{touch(1, 2), touch(0, 1), touch(0, 1)}
	w.Touches[0].Pair.PartA, w.Touches[1].Pair.PartB = -1, mostInt
	w.Settings, w.Tick = api.Settings{Step: none, Rounds: -1, CalmSteps: -5}, -1
	if l := of(t, w); !sameLists(l, [][]int{{0, 1, 2}}) {
		t.Error(l)
	}
	if l := links(t, w); !slices.Equal(l, [][2]int{{0, 1}, {0, 2}, {1, 2}}) {
		t.Error(l)
	}
	if l := touches(t, w, []int{0, 1, 2}); !slices.Equal(l, []int{0, 1, 2}) {
		t.Error(l)
	}
	// What a slot without a body has in it is no body.
	w = frees(2)
	w.Bodies[1].Live = false
	if l := of(t, w); !sameLists(l, [][]int{{0}}) {
		t.Error(l)
	}
}

// TestErrorsOrder: ErrMany, then ErrGraph, then what the island is.
func TestErrorsOrder(t *testing.T) {
	bad := func() api.State {
		w := second()
		w.Touches = append(w.Touches, touch(9, 9))
		return w
	}
	refused(t, bad(), api.ErrGraph, []int{0, 2})
	refused(t, bad(), api.ErrGraph, nil)
	bodies, joints, touching := bad(), bad(), bad()
	bodies.Bodies = append(bodies.Bodies, make([]api.Slot, api.MaxBodies+1-len(bodies.Bodies))...)
	joints.Joints = append(joints.Joints, make([]api.JointSlot, api.MaxJoints+1-len(joints.Joints))...)
	touching.Touches = append(touching.Touches, make([]api.Touch, api.MaxPairs+1-len(touching.Touches))...)
	for _, w := range []api.State{bodies, joints, touching} {
		refused(t, w, api.ErrMany, []int{0, 2})
		refused(t, w, api.ErrMany, []int{1})
	}
	// One less of each is not too many.
	bodies.Bodies, joints.Joints, touching.Touches = bodies.Bodies[:api.MaxBodies], joints.Joints[:api.MaxJoints], touching.Touches[:api.MaxPairs]
	for _, w := range []api.State{bodies, joints, touching} {
		refused(t, w, api.ErrGraph, []int{1})
	}
	// Too many are refused whatever they are, too few bodies too.
	refused(t, api.State{Bodies: make([]api.Slot, api.MaxBodies+1)}, api.ErrMany, nil)
	refused(t, api.State{Joints: make([]api.JointSlot, api.MaxJoints+1)}, api.ErrMany, nil)
	refused(t, api.State{Touches: make([]api.Touch, api.MaxPairs+1)}, api.ErrMany, nil)
	refused(t, api.State{Touches: make([]api.Touch, 1)}, api.ErrGraph, nil)
	refused(t, api.State{Joints: []api.JointSlot{{Live: true}}}, api.ErrGraph, nil)
}

func TestP22_4Join(t *testing.T) {
	s, count := source(6), map[string]int{}
	for range 20000 {
		n := 1 + s.below(12)
		l := make([][2]int, s.below(n+3))
		for i := range l {
			l[i] = [2]int{s.below(n), s.below(n)}
		}
		got, want := join(t, n, l), wantJoin(n, l)
		if !slices.Equal(got, want) {
			t.Fatalf("Join(%d, %v) is %v, not %v", n, l, got, want)
		}
		for i, least := range want {
			if least < i {
				count["not itself"]++
			} else {
				count["itself"]++
			}
		}
	}
	enough(t, count, 20000, "itself", "not itself")
}

// TestP22_4Great: as many numbers and links as may be, by long ways and by short ones.
func TestP22_4Great(t *testing.T) {
	n := api.MaxNodes
	isNought := func(call string, l []int) {
		t.Helper()
		if len(l) != n || slices.Max(l) != 0 || slices.Min(l) != 0 {
			t.Errorf("%s: %d numbers", call, len(l))
		}
	}
	var falling, rising, backward [][2]int
	for i := range n - 1 {
		rising = append(rising, [2]int{i, i + 1})
		falling = append(falling, [2]int{n - 1 - i, n - 2 - i})
		backward = append(backward, [2]int{n - 2 - i, n - 1})
	}
	isNought("rising", join(t, n, rising))
	isNought("falling", join(t, n, falling))
	isNought("falling, and closed", join(t, n, append(falling, [2]int{n - 1, 0})))
	isNought("all to the last", join(t, n, backward))
	var many [][2]int
	for len(many) < api.MaxPairs {
		many = append(many, falling[:min(len(falling), api.MaxPairs-len(many))]...)
	}
	isNought("as many as may be", join(t, n, many))
	for i, least := range join(t, n, nil) {
		if least != i {
			t.Fatalf("%d hangs together with %d", i, least)
		}
	}
	s := source(7)
	for range 5 {
		l := make([][2]int, n/2+s.below(n/2))
		for i := range l {
			l[i] = [2]int{s.below(n), s.below(n)}
		}
		if !slices.Equal(join(t, n, l), wantJoin(n, l)) {
			t.Fatal("Join of many")
		}
	}
}

func TestP22_4Errors(t *testing.T) {
	tooMany := make([][2]int, api.MaxPairs+1)
	for i, c := range []struct {
		n     int
		links [][2]int
		want  api.Errno
	}{
		{-1, nil, api.ErrArg}, {leastInt, nil, api.ErrArg}, {api.MaxNodes + 1, nil, api.ErrArg}, {mostInt, nil, api.ErrArg},
		{-1, tooMany, api.ErrArg}, {-1, [][2]int{{0, 0}}, api.ErrArg}, {api.MaxNodes + 1, [][2]int{{-1, 0}}, api.ErrArg},
		{0, tooMany, api.ErrMany}, {1, tooMany, api.ErrMany}, {1, append([][2]int{{-1, 9}}, tooMany...), api.ErrMany},
		{0, [][2]int{{0, 0}}, api.ErrGraph}, {0, tooMany[1:], api.ErrGraph}, {2, [][2]int{{2, 0}}, api.ErrGraph}, {2, [][2]int{{0, 2}}, api.ErrGraph},
		{2, [][2]int{{-1, 0}}, api.ErrGraph}, {2, [][2]int{{1, -1}}, api.ErrGraph}, {2, [][2]int{{-1, -1}}, api.ErrGraph}, {2, [][2]int{{-1, 2}}, api.ErrGraph},
		{2, [][2]int{{0, 1}, {1, 0}, {1, mostInt}}, api.ErrGraph}, {2, [][2]int{{leastInt, 1}, {0, 1}}, api.ErrGraph},
		{api.MaxNodes, [][2]int{{api.MaxNodes, 0}}, api.ErrGraph}, {api.MaxNodes, [][2]int{{0, api.MaxNodes - 1}}, api.OK},
		{1, tooMany[1:], api.OK}, {0, [][2]int{}, api.OK}, {1, [][2]int{{0, 0}}, api.OK},
	} {
		l, e := island.Join(c.n, c.links)
		if e != c.want || e != api.OK && len(l) != 0 || e == api.OK && len(l) != c.n {
			t.Errorf("Join %d is %d numbers, %d, not %d", i, len(l), e, c.want)
		}
	}
}

// roomy has spare room behind a list, filled with something to be found again.
func roomy[T any](l []T, fill T) []T {
	whole := make([]T, len(l)+3)
	copy(whole, l)
	for i := len(l); i < len(whole); i++ {
		whole[i] = fill
	}
	return whole[:len(l)]
}

// spoil overwrites a list, with the room that it has.
func spoil[T any](l []T, with T) {
	l = l[:cap(l)]
	for i := range l {
		l[i] = with
	}
}

func TestMemory(t *testing.T) {
	s := source(8)
	for range 1000 {
		w := s.state(2+s.below(10), s.below(8), s.below(8))
		w.Bodies, w.Joints, w.Touches = roomy(w.Bodies, api.Slot{Use: 77}), roomy(w.Joints, api.JointSlot{Use: 77}), roomy(w.Touches, touch(77, 77))
		whole := func() string {
			return text(w.Bodies[:cap(w.Bodies)]) + text(w.Joints[:cap(w.Joints)]) + text(w.Touches[:cap(w.Touches)])
		}
		before := whole()
		islands, again := of(t, w), of(t, w)
		for i, l := range islands {
			one := roomy(slices.Clone(l), 77)
			room := slices.Clone(one[:cap(one)])
			spoil(touches(t, w, one), -7)
			spoil(joints(t, w, one), -7)
			if !slices.Equal(one[:cap(one)], room) {
				t.Fatal("an island that is handed in is changed")
			}
			spoil(l, -7)
			// What one list is overwritten with is in no other one.
			for k, other := range islands {
				if k > i && !slices.Equal(other, again[k]) {
					t.Fatal("two islands share memory")
				}
			}
		}
		spoil(links(t, w), [2]int{-7, -7})
		if !sameLists(again, of(t, w)) || whole() != before {
			t.Fatal("a state that is handed in is changed")
		}
	}
	l := roomy([][2]int{{4, 3}, {1, 3}, {0, 2}}, [2]int{77, 77})
	room := slices.Clone(l[:cap(l)])
	spoil(join(t, 5, l), -7)
	if !slices.Equal(l[:cap(l)], room) || !slices.Equal(join(t, 5, l), []int{0, 1, 0, 1, 1}) {
		t.Error("links that are handed in are changed")
	}
}
