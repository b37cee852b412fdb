package island_test

import (
	"math"
	"slices"
	"testing"

	"tumble/api"
	"tumble/body"
	"tumble/joint"
	"tumble/pairs"
	"tumble/rows"
	"tumble/solve"
)

func TestP22_5Classes(t *testing.T) {
	s := source(21)
	for range 3000 {
		w := s.state(s.below(30), s.below(20), s.below(20))
		classes := map[int][]int{}
		var firsts []int
		for slot, least := range join(t, len(w.Bodies), links(t, w)) {
			if !isFree(w, slot) {
				continue
			}
			if least == slot {
				firsts = append(firsts, slot)
			}
			classes[least] = append(classes[least], slot)
		}
		var want [][]int
		for _, first := range firsts {
			want = append(want, classes[first])
		}
		if got := of(t, w); !sameLists(got, want) {
			t.Fatalf("Of is %v, the classes are %v", got, want)
		}
	}
}

func TestP22_5OneIsland(t *testing.T) {
	s, count := source(22), map[string]int{}
	for range 3000 {
		w := s.state(s.below(30), s.below(20), s.below(20))
		at := map[int]int{}
		ofTouch, ofJoint := make([]int, len(w.Touches)), make([]int, len(w.Joints))
		for i, l := range of(t, w) {
			for _, slot := range l {
				at[slot] = i
			}
			for _, n := range touches(t, w, l) {
				ofTouch[n]++
			}
			for _, n := range joints(t, w, l) {
				ofJoint[n]++
			}
		}
		for _, l := range links(t, w) {
			if at[l[0]] != at[l[1]] {
				t.Fatalf("the link %v is of two islands", l)
			}
			count["links"]++
		}
		isOne := func(kind string, may bool, a, b, islands int) {
			t.Helper()
			want := 0
			if may && holds(w, a, b) && (isFree(w, a) || isFree(w, b)) {
				want = 1
			}
			count[kind] += want
			if islands != want {
				t.Fatalf("a %s of %d and %d is in %d islands, not in %d", kind, a, b, islands, want)
			}
		}
		for i, n := range ofTouch {
			isOne("touch", !w.Touches[i].Sensor, w.Touches[i].Pair.A, w.Touches[i].Pair.B, n)
		}
		for i, n := range ofJoint {
			if j := w.Joints[i]; j.Live {
				isOne("joint", true, int(j.Joint.A.Slot), int(j.Joint.B.Slot), n)
			} else if n != 0 {
				t.Fatal("a joint that lies in no slot is in an island")
			}
		}
	}
	enough(t, count, 5000, "links", "touch", "joint")
}

func TestP22_5Order(t *testing.T) {
	s := source(23)
	for range 3000 {
		w := s.state(2+s.below(20), s.below(20), s.below(10))
		other := copied(w)
		for i := range other.Touches {
			// An impulse tells afterwards which one it was.
			other.Touches[i].Points = []api.Point{{ID: uint32(i), Push: s.about(9)}}
		}
		shuffle(&s, other.Touches)
		islands := of(t, w)
		if !sameLists(islands, of(t, other)) || !slices.Equal(links(t, w), links(t, other)) {
			t.Fatal("islands hang on the order of touches")
		}
		for _, l := range islands {
			var was []int
			for _, n := range touches(t, other, l) {
				was = append(was, int(other.Touches[n].Points[0].ID))
			}
			slices.Sort(was)
			if !slices.Equal(was, touches(t, w, l)) || !slices.Equal(joints(t, w, l), joints(t, other, l)) {
				t.Fatal("an island's touches hang on their order")
			}
		}
	}
}

func TestP22_5Moved(t *testing.T) {
	s := source(24)
	for range 3000 {
		w := s.state(2+s.below(20), s.below(20), s.below(10))
		other := copied(w)
		for i := range other.Bodies {
			if b := &other.Bodies[i].Body; !isWild(*b) {
				b.Frame = api.Frame{At: s.place(math.MaxFloat64), Turn: complex(s.about(1), s.about(1))}
				b.Speed, b.Spin, b.Force, b.Torque = s.place(0x1p600), s.about(9), v(none, inf), -inf
				b.Asleep, b.Calm, b.Bullet = s.coin(), s.below(9), s.coin()
			}
		}
		for i := range other.Touches {
			other.Touches[i].Normal = s.place(1)
			other.Touches[i].Points = []api.Point{{Push: none, Drag: inf}}
		}
		for i := range other.Joints {
			other.Joints[i].Joint.Push = [3]float64{none, inf, s.about(9)}
			other.Joints[i].Joint.AtA = s.place(9)
		}
		islands := of(t, w)
		if !sameLists(islands, of(t, other)) || !slices.Equal(links(t, w), links(t, other)) {
			t.Fatal("islands hang on impulses, places or speeds")
		}
		for _, l := range islands {
			if !slices.Equal(touches(t, w, l), touches(t, other, l)) || !slices.Equal(joints(t, w, l), joints(t, other, l)) {
				t.Fatal("what islands have hangs on impulses, places or speeds")
			}
		}
	}
}

// world is a state of balls that lie near one another, with the touches that they have and some joints.
func (s *source) world(n int) api.State {
	w := api.State{Settings: api.Settings{Step: 1.0 / 64, Rounds: 4, Slop: 0x1p-8, Share: 0.25, Threshold: 1, CalmSteps: 1}}
	kinds := []uint8{api.Free, api.Free, api.Free, api.Free, api.Fixed, api.Moved}
	for range n {
		p := api.Part{Shape: api.Shape{Kind: api.Circle, Radius: 0.5 + s.part()/4, Points: []api.Vec{{}}}, Density: 0.5 + s.part(), Friction: s.part(), Bounce: s.part(), Sensor: s.below(8) == 0, Layer: 1, Mask: 1}
		// A body weighs something, though what touches of it be a sensor.
		solid := p
		solid.Sensor, solid.Mask = false, 0
		b := api.Body{Kind: kinds[s.below(len(kinds))], Frame: api.Frame{At: s.place(4), Turn: 1}, Parts: []api.Part{p, solid}}
		if b.Kind != api.Fixed {
			b.Speed, b.Spin = s.place(3), s.about(3)
		}
		if s.below(12) == 0 {
			set(&b, s.below(wildest), none)
		}
		w.Bodies = append(w.Bodies, api.Slot{Use: 1, Live: true, Body: b})
	}
	all := make([]int, n)
	for i := range all {
		all[i] = i
	}
	for range s.below(n / 2) {
		a, b := s.two(all)
		w.Joints = append(w.Joints, joined(w, b, a))
	}
	return w
}

// withTouches has those that the bodies have as they lie.
func withTouches(t *testing.T, w api.State) api.State {
	t.Helper()
	l, e := pairs.Touches(w.Bodies, nil)
	isErr(t, e, api.OK, "pairs.Touches")
	w.Touches = l
	return w
}

// asked adds to a list what an island's joints and touches ask.
func asked(t *testing.T, w api.State, l []api.Row, one []int) []api.Row {
	t.Helper()
	for _, n := range joints(t, w, one) {
		j := w.Joints[n].Joint
		a, b := int(j.A.Slot), int(j.B.Slot)
		some, e := joint.Rows(j, a, b, w.Bodies[a].Body, w.Bodies[b].Body, w.Settings)
		isErr(t, e, api.OK, "joint.Rows", j)
		l = append(l, some...)
	}
	for _, n := range touches(t, w, one) {
		p := w.Touches[n].Pair
		some, e := rows.Touch(w.Touches[n], w.Bodies[p.A].Body, w.Bodies[p.B].Body, w.Settings, len(l))
		isErr(t, e, api.OK, "rows.Touch", w.Touches[n])
		l = append(l, some...)
	}
	return l
}

// stills are told of free slots too.
func stills(t *testing.T, w api.State) []api.Still {
	t.Helper()
	l := make([]api.Still, len(w.Bodies))
	for i, b := range w.Bodies {
		if b.Live {
			var e api.Errno
			l[i], e = body.Still(b.Body)
			isErr(t, e, api.OK, "body.Still")
		}
	}
	return l
}

func solved(t *testing.T, w api.State, l []api.Row) []api.Still {
	t.Helper()
	_, moved, e := solve.All(l, stills(t, w), w.Settings.Rounds)
	isErr(t, e, api.OK, "solve.All")
	return moved
}

// TestW2Apart: the rows of islands, solved together, apart, or in a world of the island and what does not move, bring the same speeds.
func TestW2Apart(t *testing.T) {
	s, count := source(25), map[string]int{}
	for range 400 {
		w := withTouches(t, s.world(10+s.below(30)))
		islands := of(t, w)
		var all []api.Row
		for _, l := range islands {
			own := asked(t, w, nil, l)
			if is, e := solve.Apart(all, own, stills(t, w)); e != api.OK || !is {
				t.Fatalf("islands that are not apart: %v %d", is, e)
			}
			all = asked(t, w, all, l)
		}
		whole := solved(t, w, all)
		for _, l := range islands {
			apart := solved(t, w, asked(t, w, nil, l))
			isOther := func(slot int) bool { return isFree(w, slot) && !slices.Contains(l, slot) }
			alone := takenOut(w, isOther)
			if got := of(t, alone); !sameLists(got, [][]int{l}) {
				t.Fatalf("alone %v is %v", l, got)
			}
			own := solved(t, alone, asked(t, alone, nil, l))
			for _, slot := range l {
				if text(apart[slot]) != text(whole[slot]) || text(own[slot]) != text(whole[slot]) {
					t.Fatalf("the body %d of %v is %v, apart %v, alone %v", slot, l, whole[slot], apart[slot], own[slot])
				}
				if text(whole[slot]) != text(stills(t, w)[slot]) {
					count["pushed"]++
				}
			}
			count["islands"]++
			if len(l) > 1 {
				count["islands of several"]++
			}
		}
	}
	enough(t, count, 500, "pushed", "islands", "islands of several")
}

// TestW2Alone: with all others taken out, an island is the same one, with the same links, touches and joints.
func TestW2Alone(t *testing.T) {
	s := source(26)
	for range 2000 {
		w := s.state(2+s.below(20), s.below(20), s.below(12))
		for _, l := range of(t, w) {
			isOther := func(slot int) bool { return isFree(w, slot) && !slices.Contains(l, slot) }
			alone := takenOut(w, isOther)
			if got := of(t, alone); !sameLists(got, [][]int{l}) {
				t.Fatalf("alone %v is %v", l, got)
			}
			own := slices.DeleteFunc(links(t, w), func(k [2]int) bool { return !slices.Contains(l, k[0]) })
			if !slices.Equal(links(t, alone), own) || !slices.Equal(joints(t, alone, l), joints(t, w, l)) {
				t.Fatalf("alone %v has other links or joints", l)
			}
			var here, there []api.Touch
			for _, n := range touches(t, w, l) {
				here = append(here, w.Touches[n])
			}
			for _, n := range touches(t, alone, l) {
				there = append(there, alone.Touches[n])
			}
			if text(here) != text(there) {
				t.Fatalf("alone %v has other touches", l)
			}
		}
	}
}

// TestW3Wild: a wild body leaves the other islands as if it had never been there.
func TestW3Wild(t *testing.T) {
	s, count := source(27), 0
	for range 2000 {
		w := s.state(2+s.below(20), s.below(20), s.below(12))
		without := takenOut(w, func(slot int) bool { return isWild(w.Bodies[slot].Body) })
		isTame := func(l []int) bool { return !isWild(w.Bodies[l[0]].Body) }
		var tame [][]int
		for _, l := range of(t, w) {
			if isTame(l) {
				tame = append(tame, l)
				continue
			}
			count++
			if len(l) != 1 {
				t.Fatalf("a wild body's island is %v", l)
			}
		}
		if !sameLists(tame, of(t, without)) || !slices.Equal(links(t, w), links(t, without)) {
			t.Fatal("a wild body changed other islands")
		}
		for _, l := range tame {
			if !slices.Equal(joints(t, w, l), joints(t, without, l)) || len(touches(t, w, l)) != len(touches(t, without, l)) {
				t.Fatalf("a wild body changed what %v has", l)
			}
		}
	}
	if count < 1000 {
		t.Errorf("so few were wild: %d", count)
	}
}

// TestR2Again: the same is answered again.
func TestR2Again(t *testing.T) {
	s := source(28)
	for range 300 {
		w := s.small()
		islands, linked := of(t, w), links(t, w)
		for range 3 {
			if !sameLists(islands, of(t, w)) || !slices.Equal(linked, links(t, w)) {
				t.Fatal("another answer")
			}
		}
	}
}
