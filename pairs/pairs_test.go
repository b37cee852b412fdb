package pairs_test

import (
	"math"
	"slices"
	"testing"

	"tumble/api"
	"tumble/body"
	"tumble/box"
	"tumble/pairs"
	"tumble/touch"
)

// The oracle goes by the chapter's words, one part against all others.

// ahead tells whether a pair stands ahead of another one in the row.
func ahead(a, b api.Pair) bool {
	if a.A != b.A {
		return a.A < b.A
	}
	if a.PartA != b.PartA {
		return a.PartA < b.PartA
	}
	if a.B != b.B {
		return a.B < b.B
	}
	return a.PartB < b.PartB
}

func wantKeeping(b api.Body) api.Errno {
	b.Frame, b.Speed, b.Spin, b.Force, b.Torque = api.Frame{Turn: 1}, api.Vec{}, 0, api.Vec{}, 0
	return body.Check(b)
}

func wantMay(a, b api.Body, partA, partB int) (bool, api.Errno) {
	if e := wantKeeping(a); e != api.OK {
		return false, e
	}
	if e := wantKeeping(b); e != api.OK {
		return false, e
	}
	if partA < 0 || partA >= len(a.Parts) {
		return false, api.ErrPair
	}
	if partB < 0 || partB >= len(b.Parts) {
		return false, api.ErrPair
	}
	if a.Kind != api.Free && b.Kind != api.Free || body.Wild(a) || body.Wild(b) {
		return false, api.OK
	}
	first, second := a.Parts[partA], b.Parts[partB]
	return first.Layer&second.Mask != 0 && second.Layer&first.Mask != 0, api.OK
}

func wantOver(a, b api.Box) bool {
	return box.Check(a) == api.OK && box.Check(b) == api.OK && box.Over(a, b)
}

// wantOf goes over slots and parts in the row's order.
func wantOf(l []api.Slot) ([]api.Pair, api.Errno) {
	if len(l) > 1<<10 {
		return nil, api.ErrMany
	}
	boxes := make([][]api.Box, len(l))
	for i, s := range l {
		if !s.Live {
			continue
		}
		if e := wantKeeping(s.Body); e != api.OK {
			return nil, e
		}
		boxes[i], _ = body.Boxes(s.Body)
	}
	var want []api.Pair
	for i := range l {
		for p := range boxes[i] {
			for k := i + 1; k < len(l); k++ {
				for q := range boxes[k] {
					if may, _ := wantMay(l[i].Body, l[k].Body, p, q); may && wantOver(boxes[i][p], boxes[k][q]) {
						want = append(want, pair(i, p, k, q))
					}
				}
			}
		}
	}
	if len(want) > 1<<16 {
		return nil, api.ErrMany
	}
	return want, api.OK
}

func wantCheck(l []api.Touch) api.Errno {
	if len(l) > 1<<16 {
		return api.ErrMany
	}
	for _, t := range l {
		if e := touch.Check(t); e != api.OK {
			return e
		}
	}
	for i := range l {
		if i > 0 && !ahead(l[i-1].Pair, l[i].Pair) {
			return api.ErrPair
		}
	}
	return api.OK
}

// find is the touch of a pair, looked for one by one.
func find(l []api.Touch, p api.Pair) (api.Touch, bool) {
	for _, t := range l {
		if t.Pair == p {
			return t, true
		}
	}
	return api.Touch{}, false
}

func wantTouches(l []api.Slot, old []api.Touch) ([]api.Touch, api.Errno) {
	met, e := wantOf(l)
	if e != api.OK {
		return nil, e
	}
	if e := wantCheck(old); e != api.OK {
		return nil, e
	}
	var want []api.Touch
	for _, p := range met {
		a, b := l[p.A].Body, l[p.B].Body
		t, is, _ := touch.Parts(p, a.Parts[p.PartA], b.Parts[p.PartB], a.Frame, b.Frame)
		if !is {
			continue
		}
		if was, is := find(old, p); is && touch.Check(t) == api.OK {
			for i, now := range t.Points {
				for _, before := range was.Points {
					if now.ID == before.ID {
						t.Points[i].Push, t.Points[i].Drag = before.Push, before.Drag
					}
				}
			}
		}
		want = append(want, t)
	}
	return want, api.OK
}

// wantEvents looks each pair up in the other list, and puts what it finds in its place in the row.
func wantEvents(old, now []api.Touch) ([]api.Event, api.Errno) {
	if e := wantCheck(old); e != api.OK {
		return nil, e
	}
	if e := wantCheck(now); e != api.OK {
		return nil, e
	}
	var want []api.Event
	put := func(e api.Event) {
		at := 0
		for at < len(want) && ahead(want[at].Pair, e.Pair) {
			at++
		}
		want = slices.Insert(want, at, e)
	}
	for _, t := range now {
		if _, is := find(old, t.Pair); !is {
			put(api.Event{Kind: 1, Pair: t.Pair})
		}
	}
	for _, t := range old {
		if _, is := find(now, t.Pair); !is {
			put(api.Event{Kind: 2, Pair: t.Pair})
		}
	}
	return want, api.OK
}

func isMay(t *testing.T, a, b api.Body, partA, partB int, want bool, wantErr api.Errno) {
	t.Helper()
	if is, e := pairs.May(a, b, partA, partB); is != want || e != wantErr {
		t.Fatalf("May(%v, %v, %d, %d) is %v, %d, not %v, %d", a, b, partA, partB, is, e, want, wantErr)
	}
}

func isOf(t *testing.T, l []api.Slot, want []api.Pair, wantErr api.Errno) {
	t.Helper()
	if got, e := pairs.Of(l); e != wantErr || !slices.Equal(got, want) {
		t.Fatalf("Of tells %v, %d, not %v, %d", got, e, want, wantErr)
	}
}

func isTouches(t *testing.T, l []api.Slot, old, want []api.Touch, wantErr api.Errno) {
	t.Helper()
	if got, e := pairs.Touches(l, old); e != wantErr || !slices.EqualFunc(got, want, sameTouch) {
		t.Fatalf("Touches tells %v, %d, not %v, %d", got, e, want, wantErr)
	}
}

func isEvents(t *testing.T, old, now []api.Touch, want []api.Event, wantErr api.Errno) {
	t.Helper()
	if got, e := pairs.Events(old, now); e != wantErr || !slices.Equal(got, want) {
		t.Fatalf("Events tells %v, %d, not %v, %d", got, e, want, wantErr)
	}
}

func TestP18_1May(t *testing.T) {
	s := source(1)
	count := map[api.Errno]int{}
	truths := map[bool]int{}
	for range 20000 {
		a, b := s.worldly(4), s.worldly(4)
		for _, x := range []*api.Body{&a, &b} {
			if s.below(6) == 0 {
				s.spoil(x)
			}
		}
		partA, partB := s.below(len(a.Parts)+1), s.below(len(b.Parts)+1)
		if s.below(8) == 0 {
			partA, partB = s.below(2)-1, s.below(2)-1
		}
		want, e := wantMay(a, b, partA, partB)
		count[e]++
		truths[want]++
		isMay(t, a, b, partA, partB, want, e)
	}
	enough(t, count, 2000, api.OK, api.ErrPair)
	enough(t, count, 100, api.ErrBody, api.ErrReal, api.ErrKind, api.ErrShape, api.ErrMass)
	enough(t, truths, 1000, true, false)
}

func TestP18_1MayKinds(t *testing.T) {
	for a := api.Fixed; a <= api.Free; a++ {
		for b := api.Fixed; b <= api.Free; b++ {
			isMay(t, ball(a, 0), ball(b, 9), 0, 0, a == api.Free || b == api.Free, api.OK)
		}
	}
}

// All bits count, and both ways must have one together.
func TestP18_1MayBits(t *testing.T) {
	a, b := free(0), fixed(0)
	set := func(layerA, maskA, layerB, maskB uint16) {
		a.Parts[0].Layer, a.Parts[0].Mask, b.Parts[0].Layer, b.Parts[0].Mask = layerA, maskA, layerB, maskB
	}
	for i := range 16 {
		for k := range 16 {
			one, two := uint16(1)<<i, uint16(1)<<k
			set(one, two, two, one)
			isMay(t, a, b, 0, 0, true, api.OK)
			isMay(t, b, a, 0, 0, true, api.OK)
			set(one, two, one, two)
			isMay(t, a, b, 0, 0, i == k, api.OK)
			set(one, two, two, ^one)
			isMay(t, a, b, 0, 0, false, api.OK)
			isMay(t, b, a, 0, 0, false, api.OK)
			set(^one, ^two, two, one)
			isMay(t, a, b, 0, 0, false, api.OK)
		}
	}
	set(0, 0, 0, 0)
	isMay(t, a, b, 0, 0, false, api.OK)
	set(1<<16-1, 0, 1<<16-1, 1<<16-1)
	isMay(t, a, b, 0, 0, false, api.OK)
	isMay(t, b, a, 0, 0, false, api.OK)
}

// Each part has bits of its own.
func TestP18_1MayParts(t *testing.T) {
	a := thing(api.Free, 0, 0, part(disc(1, 0, 0)), part(disc(1, 0, 0)), part(disc(1, 0, 0)))
	b := bodyCopy(a)
	for i := range 3 {
		a.Parts[i].Layer, a.Parts[i].Mask = 1<<i, 1<<i
		b.Parts[i].Layer, b.Parts[i].Mask = 1<<i, 1<<i
	}
	for i := -2; i < 6; i++ {
		for k := -2; k < 6; k++ {
			e := api.OK
			if i < 0 || i > 2 || k < 0 || k > 2 {
				e = api.ErrPair
			}
			isMay(t, a, b, i, k, e == api.OK && i == k, e)
		}
	}
	for _, n := range []int{leastInt, mostInt, -1, 3, 8} {
		isMay(t, a, b, n, 0, false, api.ErrPair)
		isMay(t, a, b, 0, n, false, api.ErrPair)
	}
	a.Parts[1].Sensor = true
	isMay(t, a, b, 1, 1, true, api.OK)
	isMay(t, b, a, 1, 1, true, api.OK)
	isMay(t, b, b, 0, 0, true, api.OK)
}

// Wild is what has a float that is not finite; one that is great, or does not lie, is none.
func TestP18_1MayWild(t *testing.T) {
	for i := range 10 {
		for _, f := range []float64{none, inf, -inf, most, -most, past, 2, 0, minus} {
			b := free(0)
			if i < 8 {
				*motion(&b)[i] = f
			} else {
				setTurn(&b, i-8, f)
			}
			may := f-f == 0 || i >= 5 && i < 8
			isMay(t, b, fixed(0), 0, 0, may, api.OK)
			isMay(t, fixed(0), b, 0, 0, may, api.OK)
			isMay(t, b, b, 0, 0, may, api.OK)
		}
	}
	moved := ball(api.Moved, 0)
	moved.Spin = none
	isMay(t, moved, free(0), 0, 0, false, api.OK)
	isMay(t, free(0), moved, 0, 0, false, api.OK)
	isMay(t, moved, free(0), 0, 1, false, api.ErrPair)
	isMay(t, moved, fixed(0), 0, 0, false, api.OK)
}

// The first body's error goes ahead of the second one's, and these ahead of the parts' numbers.
func TestP18_1MayErrors(t *testing.T) {
	kind, real, weight := free(0), free(none), free(0)
	kind.Kind, real.Damp, weight.Parts[0].Density = 0, -1, 0
	l := []struct {
		b api.Body
		e api.Errno
	}{{kind, api.ErrBody}, {real, api.ErrReal}, {weight, api.ErrMass}, {api.Body{}, api.ErrBody}}
	for _, x := range l {
		isMay(t, x.b, free(0), 9, 9, false, x.e)
		isMay(t, free(0), x.b, -1, 0, false, x.e)
		isMay(t, fixed(0), x.b, 0, 0, false, x.e)
		for _, y := range l {
			isMay(t, x.b, y.b, 0, 0, false, x.e)
		}
	}
	// Floats of a kept body's motion may be any, so that none is an error.
	spun := fixed(0)
	spun.Spin, spun.Speed = past, v(1, 1)
	isMay(t, spun, free(0), 0, 0, true, api.OK)
}

func TestP18_2Of(t *testing.T) {
	s := source(2)
	count := map[api.Errno]int{}
	some := 0
	for range 2500 {
		l := s.slots(s.below(12), 1+4*s.part())
		for range s.below(2) * s.below(2) * s.below(3) {
			if len(l) > 0 {
				s.spoil(&l[s.below(len(l))].Body)
			}
		}
		want, e := wantOf(l)
		count[e]++
		if len(want) > 1 {
			some++
		}
		isOf(t, l, want, e)
	}
	enough(t, count, 1500, api.OK)
	enough(t, count, 10, api.ErrBody, api.ErrReal, api.ErrKind, api.ErrShape, api.ErrMass)
	if some < 500 {
		t.Errorf("%d of many pairs", some)
	}
}

func TestP18_2OfMany(t *testing.T) {
	s := source(3)
	for _, n := range []int{60, 200} {
		l := s.slots(n, 12)
		want, e := wantOf(l)
		if len(want) < n || e != api.OK {
			t.Fatalf("%d pairs, %d", len(want), e)
		}
		isOf(t, l, want, e)
	}
}

func TestP18_2OfKnown(t *testing.T) {
	isOf(t, nil, nil, api.OK)
	isOf(t, []api.Slot{}, nil, api.OK)
	isOf(t, slots(free(0)), nil, api.OK)
	// The one in the later slot begins farther left.
	isOf(t, slots(free(5), free(4), free(3), free(0)), []api.Pair{pair(0, 0, 1, 0), pair(0, 0, 2, 0), pair(1, 0, 2, 0)}, api.OK)
	// Ends count, the next float beyond does not.
	isOf(t, slots(free(0), fixed(2)), []api.Pair{pair(0, 0, 1, 0)}, api.OK)
	isOf(t, slots(free(0), fixed(2+0x1p-51)), nil, api.OK)
	up := free(0)
	up.Frame.At = v(2, -2)
	isOf(t, slots(free(0), up), []api.Pair{pair(0, 0, 1, 0)}, api.OK)
	up.Frame.At.Y = -2 - 0x1p-51
	isOf(t, slots(free(0), up), nil, api.OK)
	// A body's own parts are no pair; of two bodies those are told whose boxes meet, by A and PartA ahead of B.
	two := thing(api.Free, 0, 0, part(disc(1, 0, 0)), part(disc(1, 1, 0)))
	isOf(t, slots(two), nil, api.OK)
	isOf(t, slots(two, free(-2), fixed(2.5)), []api.Pair{pair(0, 0, 1, 0), pair(0, 1, 2, 0)}, api.OK)
	isOf(t, slots(two, free(0.5), two), []api.Pair{
		pair(0, 0, 1, 0), pair(0, 0, 2, 0), pair(0, 0, 2, 1), pair(0, 1, 1, 0), pair(0, 1, 2, 0), pair(0, 1, 2, 1), pair(1, 0, 2, 0), pair(1, 0, 2, 1),
	}, api.OK)
	// A turn counts.
	long := thing(api.Fixed, 0, 0, part(pill(1, 0, 0, 9, 0)))
	isOf(t, slots(free(8), long), []api.Pair{pair(0, 0, 1, 0)}, api.OK)
	long.Frame.Turn = 1i
	isOf(t, slots(free(8), long), nil, api.OK)
}

// What lies in a free slot counts for nothing, and is not looked at.
func TestP18_2OfFreeSlots(t *testing.T) {
	l := slots(free(0), free(0), free(0), fixed(0))
	l[0].Live = false
	l[2].Live = false
	l[2].Body = api.Body{Kind: 9, Damp: none, Parts: make([]api.Part, 99)}
	isOf(t, l, []api.Pair{pair(1, 0, 3, 0)}, api.OK)
	for i := range l {
		l[i].Use = 0
	}
	isOf(t, l, []api.Pair{pair(1, 0, 3, 0)}, api.OK)
}

// Wild bodies, and parts that do not lie, have no box that may be; one that does not lie leaves the others of its body.
func TestP18_2OfWithoutBoxes(t *testing.T) {
	for i := range 10 {
		for _, f := range []float64{none, inf, -inf} {
			b := free(0)
			if i < 8 {
				*motion(&b)[i] = f
			} else {
				setTurn(&b, i-8, f)
			}
			var want []api.Pair
			if i >= 5 && i < 8 {
				want = []api.Pair{pair(0, 0, 1, 0)}
			}
			isOf(t, slots(b, free(0)), want, api.OK)
			isOf(t, slots(fixed(0), b), want, api.OK)
			isOf(t, slots(b, b), want, api.OK)
		}
	}
	far := free(past)
	isOf(t, slots(far, far), nil, api.OK)
	turned := free(0)
	turned.Frame.Turn = 2
	isOf(t, slots(turned, free(0)), nil, api.OK)
	// At 2^40 the second part alone comes to lie beyond MaxReal.
	half := thing(api.Fixed, api.MaxReal, 0, part(disc(1, -1, 0)), part(disc(1, 1, 0)), part(disc(1, -2, 0)))
	isOf(t, slots(free(api.MaxReal), half), []api.Pair{pair(0, 0, 1, 0), pair(0, 0, 1, 2)}, api.OK)
}

func TestP18_2OfErrors(t *testing.T) {
	kind, real := free(0), free(0)
	kind.Kind, real.Damp = 9, -1
	spoiled := func(n int) []api.Slot {
		l := make([]api.Slot, n)
		for i := range l {
			l[i] = api.Slot{Live: true, Body: kind}
		}
		return l
	}
	isOf(t, spoiled(api.MaxBodies+1), nil, api.ErrMany)
	isOf(t, spoiled(api.MaxBodies), nil, api.ErrBody)
	isOf(t, make([]api.Slot, api.MaxBodies+1), nil, api.ErrMany)
	isOf(t, make([]api.Slot, api.MaxBodies), nil, api.OK)
	for i := range 4 {
		for k := range 4 {
			l := slots(free(0), free(0), free(0), free(0))
			l[i] = api.Slot{Live: true, Body: kind}
			l[k] = api.Slot{Live: true, Body: real}
			want := api.ErrBody
			if k <= i {
				want = api.ErrReal
			}
			isOf(t, l, nil, want)
			isTouches(t, l, nil, nil, want)
		}
	}
}

// crowd are so many free balls at one place.
func crowd(n int) []api.Slot {
	l := make([]api.Slot, n)
	for i := range l {
		l[i] = api.Slot{Live: true, Body: free(0)}
	}
	return l
}

// sides are two crowds; those of the one may touch those of the other alone.
func sides(n, k int) []api.Slot {
	l := crowd(n + k)
	for i := range l {
		p := &l[i].Body.Parts[0]
		p.Layer, p.Mask = 1, 2
		if i >= n {
			p.Layer, p.Mask = 2, 1
		}
	}
	return l
}

// Just those pairs that may touch are counted, not all whose boxes lie over one another.
func TestP18_2OfMaxPairs(t *testing.T) {
	l := sides(256, 256)
	got, e := pairs.Of(l)
	if len(got) != api.MaxPairs || e != api.OK {
		t.Fatalf("%d pairs, %d", len(got), e)
	}
	for i, p := range got {
		if p != pair(i/256, 0, 256+i%256, 0) {
			t.Fatalf("the pair %d is %v", i, p)
		}
	}
	extra := slices.Concat(slices.Repeat([]api.Slot{{Live: true, Body: fixed(0)}}, 300), l)
	for i := range 300 {
		extra[i].Body.Parts = []api.Part{part(disc(1, 0, 0))}
		extra[i].Body.Parts[0].Mask = 4
	}
	if got, e := pairs.Of(extra); len(got) != api.MaxPairs || e != api.OK || got[0] != pair(300, 0, 556, 0) {
		t.Fatalf("%d pairs, %d", len(got), e)
	}
	// Two more, far off, have one pair.
	two := slots(free(99), fixed(100))
	if got, e := pairs.Of(append(sides(255, 257), two...)); len(got) != api.MaxPairs || e != api.OK || got[api.MaxPairs-1] != pair(512, 0, 513, 0) {
		t.Fatalf("%d pairs, %d", len(got), e)
	}
	isOf(t, append(l, two...), nil, api.ErrMany)
	isTouches(t, append(l, two...), nil, nil, api.ErrMany)
	isOf(t, crowd(363), nil, api.ErrMany)
	isOf(t, crowd(api.MaxBodies), nil, api.ErrMany)
	if got, e := pairs.Of(crowd(362)); len(got) != 362*361/2 || e != api.OK {
		t.Fatalf("%d pairs, %d", len(got), e)
	}
	// A body that may not be kept is told ahead of pairs that are too many.
	bad := crowd(400)
	bad[399].Body.Damp = -1
	isOf(t, bad, nil, api.ErrReal)
}

// So many parts as a world can have, all at one place, of which few may touch.
func TestP18_2OfMostParts(t *testing.T) {
	parts := slices.Repeat([]api.Part{part(disc(1, 0, 0))}, api.MaxParts)
	l := slices.Repeat([]api.Slot{{Live: true, Body: thing(api.Fixed, 0, 0, parts...)}}, api.MaxBodies)
	isOf(t, l, nil, api.OK)
	l[7].Body.Kind = api.Free
	got, e := pairs.Of(l)
	if len(got) != 8*8*1023 || e != api.OK || got[0] != pair(0, 0, 7, 0) || got[len(got)-1] != pair(7, 7, 1023, 7) {
		t.Fatalf("%d pairs, %d", len(got), e)
	}
	if !slices.IsSortedFunc(got, func(a, b api.Pair) int {
		if ahead(a, b) {
			return -1
		}
		return 1
	}) {
		t.Errorf("not in order")
	}
	l[9].Body.Kind = api.Free
	isOf(t, l, nil, api.ErrMany)
	for i := range parts {
		parts[i].Mask = 2
	}
	for i := range l {
		l[i].Body.Kind = api.Free
	}
	isOf(t, l, nil, api.OK)
	isTouches(t, l, nil, nil, api.OK)
}

func TestP18_3Touches(t *testing.T) {
	s := source(4)
	count := map[api.Errno]int{}
	kept := 0
	for range 1500 {
		l := s.slots(s.below(12), 1+4*s.part())
		before, _ := pairs.Touches(l, nil)
		old := s.pushed(before)
		if s.below(2) == 0 {
			l = s.moved(l)
		}
		if n := len(old); n > 0 && s.below(8) == 0 {
			old[s.below(n)].Normal = v(1, 1)
		}
		if n := len(old); n > 1 && s.below(8) == 0 {
			i := 1 + s.below(n-1)
			old[i-1], old[i] = old[i], old[i-1]
		}
		if s.below(10) == 0 && len(l) > 0 {
			s.spoil(&l[s.below(len(l))].Body)
		}
		want, e := wantTouches(l, old)
		count[e]++
		for _, x := range want {
			if _, is := find(old, x.Pair); is {
				kept++
			}
		}
		isTouches(t, l, old, want, e)
	}
	enough(t, count, 900, api.OK)
	enough(t, count, 40, api.ErrArg, api.ErrPair, api.ErrBody)
	if kept < 2000 {
		t.Errorf("%d were kept", kept)
	}
}

func TestP18_3TouchesKnown(t *testing.T) {
	isTouches(t, nil, nil, nil, api.OK)
	// Boxes over one another are not enough.
	corner := thing(api.Free, 1.5, 1.5, part(disc(1, 0, 0)))
	isOf(t, slots(free(0), corner), []api.Pair{pair(0, 0, 1, 0)}, api.OK)
	isTouches(t, slots(free(0), corner), nil, nil, api.OK)
	// The normal goes from the lesser slot to the greater one.
	isTouches(t, slots(free(1.5), free(0)), nil, []api.Touch{{Pair: pair(0, 0, 1, 0), Normal: v(-1, 0), Points: []api.Point{{At: v(0.75, 0), Depth: 0.5}}}}, api.OK)
	// Parts lie by their own bodies' frames, and a sensor makes a sensor's touch.
	a := thing(api.Free, 0, 0, part(disc(1, 5, 0)), part(rectangle(-1, -1, 1, 1)))
	b := thing(api.Fixed, 5, 0, part(disc(1, 1.5, 0)), part(disc(1, 0, -9)))
	b.Parts[0].Sensor, b.Frame.Turn = true, 1i
	isTouches(t, slots(a, b), nil, []api.Touch{{Pair: pair(0, 0, 1, 0), Sensor: true, Normal: v(0, 1), Points: []api.Point{{At: v(5, 0.75), Depth: 0.5}}}}, api.OK)
	b.Parts[0].Sensor = false
	if got, e := pairs.Touches(slots(a, b), nil); e != api.OK || len(got) != 1 || got[0].Sensor {
		t.Errorf("Touches tells %v, %d", got, e)
	}
}

// Points of one number keep their impulses, others have none; all else is as it is now.
func TestP18_3TouchesKeep(t *testing.T) {
	l := slots(thing(api.Free, 0, 0, part(rectangle(-1, -1, 1, 1))), thing(api.Free, 0, 1, part(rectangle(-0.5, -0.5, 0.5, 0.5))))
	now, e := pairs.Touches(l, nil)
	if e != api.OK || len(now) != 1 || len(now[0].Points) != 2 {
		t.Fatalf("Touches tells %v, %d", now, e)
	}
	id := now[0].Points[1].ID
	old := api.Touch{Pair: now[0].Pair, Sensor: true, Normal: v(1, 0), Points: []api.Point{{ID: 77, Depth: 9, Push: 5, Drag: 6}, {ID: id, At: v(8, 8), Depth: 7, Push: 3, Drag: minus}}}
	want := touchesCopy(now)
	want[0].Points[1].Push, want[0].Points[1].Drag = 3, minus
	isTouches(t, l, []api.Touch{old}, want, api.OK)
	// Old touches of other pairs count for nothing: of no slots, of free ones, of the same bodies the other way round.
	for _, p := range []api.Pair{pair(0, 0, 1, 1), pair(0, 1, 1, 0), pair(1, 0, 0, 0), pair(0, 0, 2, 0), pair(5000, 7, mostInt, 7)} {
		old.Pair = p
		isTouches(t, l, []api.Touch{old}, now, api.OK)
	}
	old.Pair = now[0].Pair
	among := []api.Touch{touching(pair(0, 0, 1, 0)), touching(pair(0, 0, 1, 1)), touching(pair(0, 0, 2, 0)), touching(pair(1, 0, 0, 0))}
	among[0] = old
	isTouches(t, l, among, want, api.OK)
	// What the old ones tell of does not make a touch.
	isTouches(t, slots(free(0), free(9)), []api.Touch{old}, nil, api.OK)
	isTouches(t, nil, []api.Touch{old}, nil, api.OK)
}

// deep are two of the greatest parts, in such places that rounding makes their touch deeper than touch.Check lets any be.
func deep() (api.Body, api.Body) {
	pill := thing(api.Fixed, 0, 0, part(pill(0x1p40, 3.938972528580984e+11, 1.0791179944454739e+12, -1.454778705193929e+11, -1.0783824988921661e+12)))
	return pill, thing(api.Free, 0, 0, part(disc(0x1p40, -1.3944422693673132e+11, -1.0542479245634475e+12)))
}

// A touch that is too deep is told as it is, without what was: touch.Keep has nothing to make of it. No other one is touched by that.
func TestP18_3TouchesDeep(t *testing.T) {
	a, b := deep()
	aside := free(1.5)
	aside.Parts[0].Layer, aside.Parts[0].Mask = 2, 2
	second := bodyCopy(aside)
	second.Frame.At.X = 0
	for _, l := range [][]api.Slot{slots(aside, a, b, second), slots(aside, b, a, second)} {
		now, e := pairs.Touches(l, nil)
		isErr(t, e, api.OK, "Touches")
		if len(now) != 2 || now[0].Pair != pair(0, 0, 3, 0) || now[1].Pair != pair(1, 0, 2, 0) || len(now[1].Points) != 3 {
			t.Fatalf("Touches tells %v", now)
		}
		isErr(t, touch.Check(now[1]), api.ErrArg, "Check")
		isEvents(t, nil, now, nil, api.ErrArg)
		old := touchesCopy(now)
		for i := range old {
			for k := range old[i].Points {
				p := &old[i].Points[k]
				p.Depth, p.Push, p.Drag = 1, 2, 3
			}
		}
		want := touchesCopy(now)
		want[0].Points[0].Push, want[0].Points[0].Drag = 2, 3
		isTouches(t, l, old, want, api.OK)
		isTouches(t, l, old[1:], now, api.OK)
	}
}

// badTouches are such as touch.Check refuses.
func badTouches() []api.Touch {
	l := touchings(pair(0, 0, 0, 0), pair(-1, 0, 1, 0), pair(0, 8, 1, 0), pair(0, 0, 1, -1), pair(0, 0, 1, 0), pair(0, 0, 1, 0), pair(0, 0, 1, 0), pair(0, 0, 1, 0))
	l[4].Points = nil
	l[5].Normal = v(none, 0)
	l[6].Points[0].Depth = -1
	l[7].Points[0].Push = past
	return append(l, api.Touch{})
}

func TestP18_3TouchesErrors(t *testing.T) {
	a, b, c := pair(0, 0, 1, 0), pair(0, 0, 1, 1), pair(0, 1, 1, 0)
	isTouches(t, nil, touchings(a, b, c), nil, api.OK)
	for _, l := range [][]api.Touch{touchings(a, a), touchings(b, a), touchings(a, c, b), touchings(a, b, c, c), touchings(c, a, b), touchings(a, b, a)} {
		isTouches(t, nil, l, nil, api.ErrPair)
		isTouches(t, slots(free(0), free(1)), l, nil, api.ErrPair)
	}
	kind := free(0)
	kind.Kind = 9
	for _, x := range badTouches() {
		// A touch that may not be is told ahead of those that stand wrong, wherever it is.
		for _, l := range [][]api.Touch{{x}, {touching(b), touching(a), x}, {x, touching(b), touching(a)}, {touching(a), x, touching(a)}} {
			isTouches(t, nil, l, nil, api.ErrArg)
			// And the bodies' errors ahead of all.
			isTouches(t, slots(kind), l, nil, api.ErrBody)
			isTouches(t, make([]api.Slot, api.MaxBodies+1), l, nil, api.ErrMany)
			isTouches(t, crowd(363), l, nil, api.ErrMany)
		}
	}
	// A list that is too long is told ahead of what is in it.
	many := manyTouches(api.MaxPairs + 1)
	isTouches(t, nil, many, nil, api.ErrMany)
	isTouches(t, slots(kind), many, nil, api.ErrBody)
	isTouches(t, nil, many[1:], nil, api.OK)
	isTouches(t, nil, many[:api.MaxPairs], nil, api.OK)
	isTouches(t, nil, make([]api.Touch, api.MaxPairs+1), nil, api.ErrMany)
	isTouches(t, nil, make([]api.Touch, api.MaxPairs), nil, api.ErrArg)
	many[3], many[4] = many[4], many[3]
	isTouches(t, nil, many, nil, api.ErrMany)
	isTouches(t, nil, many[:api.MaxPairs], nil, api.ErrPair)
	many[api.MaxPairs-1].Points = nil
	isTouches(t, nil, many[:api.MaxPairs], nil, api.ErrArg)
}

// As many touches as may be, found and found again.
func TestP18_3TouchesMost(t *testing.T) {
	l := sides(256, 256)
	now, e := pairs.Touches(l, nil)
	if len(now) != api.MaxPairs || e != api.OK {
		t.Fatalf("%d touches, %d", len(now), e)
	}
	for i := range now {
		now[i].Points[0].Push = float64(i)
	}
	isTouches(t, l, now, now, api.OK)
	isEvents(t, now, now, nil, api.OK)
}

func TestP18_4Events(t *testing.T) {
	s := source(5)
	count := map[api.Errno]int{}
	for range 4000 {
		old, now := s.row(s.below(20)), s.row(s.below(20))
		for _, l := range [][]api.Touch{old, now} {
			if n := len(l); n > 0 && s.below(16) == 0 {
				l[s.below(n)].Points = nil
			}
			if n := len(l); n > 0 && s.below(10) == 0 {
				l[s.below(n)].Pair = l[s.below(n)].Pair
			}
		}
		want, e := wantEvents(old, now)
		count[e]++
		isEvents(t, old, now, want, e)
	}
	enough(t, count, 2000, api.OK)
	enough(t, count, 200, api.ErrArg, api.ErrPair)
}

func TestP18_4EventsKnown(t *testing.T) {
	isEvents(t, nil, nil, nil, api.OK)
	a, b, c, d := pair(0, 0, 1, 0), pair(0, 0, 1, 1), pair(0, 1, 1, 0), pair(3, 0, 2, 0)
	isEvents(t, touchings(a, b, c), touchings(b, d), []api.Event{{Kind: 2, Pair: a}, {Kind: 2, Pair: c}, {Kind: 1, Pair: d}}, api.OK)
	isEvents(t, touchings(b, d), touchings(a, b, c), []api.Event{{Kind: 1, Pair: a}, {Kind: 1, Pair: c}, {Kind: 2, Pair: d}}, api.OK)
	isEvents(t, touchings(a, c), touchings(b, d), []api.Event{{Kind: 2, Pair: a}, {Kind: 1, Pair: b}, {Kind: 2, Pair: c}, {Kind: 1, Pair: d}}, api.OK)
	// The pair alone counts, nothing else of a touch; a sensor's are told as all others.
	other := api.Touch{Pair: a, Sensor: true, Normal: v(-1, 0), Points: []api.Point{{ID: 9}, {ID: 3}}}
	isEvents(t, touchings(a), []api.Touch{other}, nil, api.OK)
	isEvents(t, nil, []api.Touch{other}, []api.Event{{Kind: 1, Pair: a}}, api.OK)
	isEvents(t, []api.Touch{other}, nil, []api.Event{{Kind: 2, Pair: a}}, api.OK)
}

// All that is wrong of old goes ahead of all that is wrong of now.
func TestP18_4EventsErrors(t *testing.T) {
	a, b := pair(0, 0, 1, 0), pair(0, 0, 2, 0)
	type list struct {
		l []api.Touch
		e api.Errno
	}
	lists := []list{{nil, api.OK}, {touchings(a, b), api.OK}, {touchings(b, a), api.ErrPair}, {touchings(a, a), api.ErrPair}, {manyTouches(api.MaxPairs + 1), api.ErrMany}, {make([]api.Touch, api.MaxPairs+1), api.ErrMany}}
	for _, x := range badTouches() {
		lists = append(lists, list{[]api.Touch{x}, api.ErrArg}, list{[]api.Touch{touching(b), touching(a), x}, api.ErrArg})
	}
	for _, old := range lists {
		for _, now := range lists {
			want := old.e
			if want == api.OK {
				want = now.e
			}
			if want != api.OK {
				isEvents(t, old.l, now.l, nil, want)
			}
		}
	}
}

// Of two lists as long as may be, all of which began and ended, all events are told.
func TestP18_4EventsMost(t *testing.T) {
	old, now := manyTouches(api.MaxPairs), manyTouches(api.MaxPairs)
	for i := range now {
		now[i].Pair.PartB = 1
	}
	got, e := pairs.Events(old, now)
	if len(got) != 2*api.MaxPairs || e != api.OK {
		t.Fatalf("%d events, %d", len(got), e)
	}
	for i, x := range got {
		if want := (api.Event{Kind: 2 - uint8(i%2), Pair: pair(i/16, i/2%8, i/16+1, i%2)}); x != want {
			t.Fatalf("the event %d is %v, not %v", i, x, want)
		}
	}
}

func TestP18_5Less(t *testing.T) {
	numbers := []int{leastInt, -1, 0, 1, mostInt}
	var l []api.Pair
	for _, a := range numbers {
		for _, b := range numbers {
			for _, c := range numbers {
				for _, d := range numbers {
					l = append(l, pair(a, b, c, d))
				}
			}
		}
	}
	// These are in the row's order as they were made.
	for i, a := range l {
		for k, b := range l {
			if is := pairs.Less(a, b); is != (i < k) {
				t.Fatalf("Less(%v, %v) is %v", a, b, is)
			}
		}
	}
}

func TestP18_6Read(t *testing.T) {
	s := source(6)
	for range 200 {
		l := s.slots(2+s.below(8), 3)
		old, _ := pairs.Touches(l, nil)
		old = s.pushed(old)
		// Spare room is not written to either.
		roomy := append(slotsCopy(l), s.slots(3, 3)...)
		roomyOld := append(touchesCopy(old), touchings(pair(7, 0, 8, 0), pair(7, 0, 9, 0))...)
		for i := range roomyOld {
			roomyOld[i].Points = append(roomyOld[i].Points, api.Point{ID: 99})
		}
		wantRoomy, wantRoomyOld := slotsCopy(roomy), touchesCopy(roomyOld)
		handed := roomy[:len(l)]
		handedOld := roomyOld[:len(old)]
		for i := range handedOld {
			n := len(handedOld[i].Points) - 1
			handedOld[i].Points = handedOld[i].Points[:n]
		}
		pairs.May(l[0].Body, l[1].Body, 0, 0)
		pairs.Of(handed)
		pairs.Touches(s.moved(handed), handedOld)
		got, _ := pairs.Touches(handed, handedOld)
		pairs.Events(handedOld, got)
		pairs.Events(got, handedOld)
		for i := range handedOld {
			handedOld[i].Points = handedOld[i].Points[:len(handedOld[i].Points)+1]
		}
		if !slices.EqualFunc(roomy, wantRoomy, sameSlot) || !slices.EqualFunc(roomyOld, wantRoomyOld, sameTouch) {
			t.Fatalf("what was handed in changed")
		}
	}
}

// scribble writes over touches, their spare room too.
func scribble(l []api.Touch) {
	l = l[:cap(l)]
	for i := range l {
		points := l[i].Points[:cap(l[i].Points)]
		for k := range points {
			points[k] = api.Point{At: v(none, none), ID: 1234}
		}
		l[i] = api.Touch{}
	}
}

func TestP18_6New(t *testing.T) {
	s := source(7)
	for range 200 {
		l := s.slots(2+s.below(8), 3)
		first, _ := pairs.Touches(l, nil)
		old := s.pushed(first)
		wantL, wantOld, want := slotsCopy(l), touchesCopy(old), touchesCopy(old)
		got, _ := pairs.Touches(l, old)
		again, _ := pairs.Touches(l, old)
		// No two touches of one answer share their points.
		for i := range again {
			points := again[i].Points[:cap(again[i].Points)]
			for k := range points {
				points[k].Push = 77
			}
			for k := i + 1; k < len(again); k++ {
				if !sameTouch(again[k], want[k]) {
					t.Fatalf("the touches %d and %d share memory", i, k)
				}
			}
		}
		scribble(again)
		if !slices.EqualFunc(got, want, sameTouch) {
			t.Fatalf("two answers share memory")
		}
		scribble(got)
		scribble(first)
		if !slices.EqualFunc(old, wantOld, sameTouch) || !slices.EqualFunc(l, wantL, sameSlot) {
			t.Fatalf("an answer shares memory with what was handed in")
		}
		met, _ := pairs.Of(l)
		wantMet := slices.Clone(met)
		other, _ := pairs.Of(l)
		clear(other[:cap(other)])
		events, _ := pairs.Events(nil, old)
		wantEvents := slices.Clone(events)
		others, _ := pairs.Events(nil, old)
		clear(others[:cap(others)])
		if !slices.Equal(met, wantMet) || !slices.Equal(events, wantEvents) || !slices.EqualFunc(old, wantOld, sameTouch) {
			t.Fatalf("two answers share memory")
		}
	}
}

// What is answered is in order, may be, and is its own successor.
func TestP18_7Again(t *testing.T) {
	s := source(8)
	points := 0
	for range 800 {
		l := s.slots(2+s.below(10), 4*s.part())
		before, e := pairs.Touches(l, nil)
		isErr(t, e, api.OK, "Touches")
		l = s.moved(l)
		now, e := pairs.Touches(l, s.pushed(before))
		isErr(t, e, api.OK, "Touches")
		for i, x := range now {
			isErr(t, touch.Check(x), api.OK, "touch.Check", x)
			if i > 0 && !ahead(now[i-1].Pair, x.Pair) {
				t.Fatalf("%v stands ahead of %v", now[i-1].Pair, x.Pair)
			}
			if x.Pair.A >= x.Pair.B {
				t.Fatalf("%v has the greater slot first", x.Pair)
			}
			points += len(x.Points)
		}
		isTouches(t, l, now, now, api.OK)
		isEvents(t, now, now, nil, api.OK)
	}
	if points < 4000 {
		t.Errorf("%d points", points)
	}
}

// So it is where all lengths are so many times as great, up to the greatest.
func TestP18_7Great(t *testing.T) {
	s := source(11)
	count := map[int]int{}
	for i := range 1500 {
		k := i%62 - 24
		l := scaled(s.slots(2+s.below(8), 4*s.part()), math.Ldexp(1, k))
		for i := range l {
			l[i].Live = l[i].Live && wantKeeping(l[i].Body) == api.OK
		}
		now, e := pairs.Touches(l, nil)
		isErr(t, e, api.OK, "Touches")
		for _, x := range now {
			isErr(t, touch.Check(x), api.OK, "touch.Check", x)
		}
		now = s.pushed(now)
		isTouches(t, l, now, now, api.OK)
		count[k] += len(now)
	}
	enough(t, count, 20, -24, 0, 20, 37)
}

// What two bodies have together hangs on these two alone.
func TestP18_7Alone(t *testing.T) {
	s := source(9)
	count := map[bool]int{}
	for range 400 {
		l := s.slots(3+s.below(6), 3)
		before, _ := pairs.Touches(l, nil)
		old := s.pushed(before)
		l = s.moved(l)
		met, _ := pairs.Of(l)
		now, e := pairs.Touches(l, old)
		isErr(t, e, api.OK, "Touches")
		for i := range l {
			for k := i + 1; k < len(l); k++ {
				alone := make([]api.Slot, len(l))
				alone[i], alone[k] = l[i], l[k]
				var wantMet []api.Pair
				for _, p := range met {
					if p.A == i && p.B == k {
						wantMet = append(wantMet, p)
					}
				}
				var want []api.Touch
				for _, x := range now {
					if x.Pair.A == i && x.Pair.B == k {
						want = append(want, x)
					}
				}
				count[len(want) > 0]++
				isOf(t, alone, wantMet, api.OK)
				isTouches(t, alone, old, want, api.OK)
			}
		}
	}
	enough(t, count, 300, true, false)
}

// Both ways round the same pairs have events, with the kinds exchanged; and what began and ended adds up.
func TestP18_7Events(t *testing.T) {
	s := source(10)
	told := 0
	for range 2000 {
		l := s.slots(2+s.below(10), 3)
		old, _ := pairs.Touches(l, nil)
		now, _ := pairs.Touches(s.moved(l), old)
		there, e := pairs.Events(old, now)
		isErr(t, e, api.OK, "Events")
		back, e := pairs.Events(now, old)
		isErr(t, e, api.OK, "Events")
		count := map[uint8]int{}
		for i := range there {
			count[there[i].Kind]++
			there[i].Kind = 3 - there[i].Kind
		}
		if !slices.Equal(there, back) {
			t.Fatalf("Events are %v with the kinds exchanged, and %v the other way round", there, back)
		}
		if len(old)+count[1] != len(now)+count[2] || count[1]+count[2] != len(there) {
			t.Fatalf("of %d touches to %d there are the events %v", len(old), len(now), count)
		}
		told += len(there)
	}
	if told < 1000 {
		t.Errorf("%d events", told)
	}
}

func TestExamples(t *testing.T) {
	isMay(t, free(0), fixed(9), 0, 0, true, api.OK)
	isMay(t, fixed(0), fixed(1), 0, 0, false, api.OK)
	isMay(t, free(0), free(0), 0, 1, false, api.ErrPair)
	isMay(t, free(none), free(0), 0, 0, false, api.OK)

	isOf(t, slots(free(0), free(1.5), fixed(9)), []api.Pair{pair(0, 0, 1, 0)}, api.OK)
	isOf(t, slots(free(0), api.Body{}, free(1)), []api.Pair{pair(0, 0, 2, 0)}, api.OK)
	isOf(t, slots(fixed(0), fixed(0)), nil, api.OK)

	one := []api.Touch{{Pair: pair(0, 0, 1, 0), Normal: v(1, 0), Points: []api.Point{{At: v(0.75, 0), Depth: 0.5}}}}
	isTouches(t, slots(free(0), free(1.5)), nil, one, api.OK)
	one[0].Points[0].Push = 3
	if l, e := pairs.Touches(slots(free(0), free(1.9)), one); e != api.OK || len(l) != 1 || len(l[0].Points) != 1 || l[0].Points[0].Push != 3 {
		t.Errorf("Touches tells %v, %d", l, e)
	}

	isEvents(t, nil, one, []api.Event{{Kind: 1, Pair: pair(0, 0, 1, 0)}}, api.OK)
	isEvents(t, one, nil, []api.Event{{Kind: 2, Pair: pair(0, 0, 1, 0)}}, api.OK)
	isEvents(t, one, one, nil, api.OK)
	isEvents(t, append(touchesCopy(one), one...), nil, nil, api.ErrPair)

	for _, x := range []struct {
		a, b api.Pair
		is   bool
	}{{pair(0, 0, 1, 0), pair(0, 0, 1, 1), true}, {pair(0, 1, 1, 0), pair(0, 0, 2, 0), false}, {pair(0, 0, 1, 0), pair(0, 0, 1, 0), false}} {
		if is := pairs.Less(x.a, x.b); is != x.is {
			t.Errorf("Less(%v, %v) is %v", x.a, x.b, is)
		}
	}
}
