package step_test

import (
	"slices"

	"tumble/api"
	"tumble/body"
	"tumble/impact"
	"tumble/island"
	"tumble/joint"
	"tumble/num"
	"tumble/pairs"
	"tumble/rows"
	"tumble/sleep"
	"tumble/solve"
)

// This file says once more, in the chapter's own order and words, what a state's row is and what a step does: nothing is kept from one call to the next, and nothing is left out that changes nothing.

// numbers are a state's row.
func numbers(w api.State) []uint64 {
	var l []uint64
	whole := func(n uint64) { l = append(l, n) }
	float := func(f float64) { l = append(l, num.Bits(f)) }
	is := func(b bool) {
		if b {
			whole(1)
		} else {
			whole(0)
		}
	}
	place := func(p api.Vec) {
		float(p.X)
		float(p.Y)
	}
	set := w.Settings
	float(set.Step)
	place(set.Gravity)
	whole(uint64(set.Rounds))
	float(set.Slop)
	float(set.Share)
	float(set.Threshold)
	float(set.CalmSpeed)
	float(set.CalmSpin)
	whole(uint64(set.CalmSteps))
	whole(uint64(len(w.Bodies)))
	for _, s := range w.Bodies {
		whole(uint64(s.Use))
		is(s.Live)
		b := s.Body
		whole(uint64(b.Kind))
		place(b.Frame.At)
		float(real(b.Frame.Turn))
		float(imag(b.Frame.Turn))
		place(b.Speed)
		float(b.Spin)
		place(b.Force)
		float(b.Torque)
		float(b.Damp)
		float(b.SpinDamp)
		whole(uint64(len(b.Parts)))
		for _, p := range b.Parts {
			whole(uint64(p.Shape.Kind))
			float(p.Shape.Radius)
			whole(uint64(len(p.Shape.Points)))
			for _, q := range p.Shape.Points {
				place(q)
			}
			float(p.Density)
			float(p.Friction)
			float(p.Bounce)
			is(p.Sensor)
			whole(uint64(p.Layer))
			whole(uint64(p.Mask))
		}
		is(b.Asleep)
		whole(uint64(b.Calm))
		is(b.Bullet)
	}
	whole(uint64(len(w.Joints)))
	for _, s := range w.Joints {
		whole(uint64(s.Use))
		is(s.Live)
		j := s.Joint
		whole(uint64(j.Kind))
		for _, h := range []api.Handle{j.A, j.B} {
			whole(uint64(h.Slot))
			whole(uint64(h.Use))
		}
		place(j.AtA)
		place(j.AtB)
		place(j.Axis)
		float(j.Rest)
		float(j.Ratio)
		is(j.Motor)
		float(j.Speed)
		float(j.Most)
		is(j.Limit)
		float(j.Low)
		float(j.High)
		for _, p := range j.Push {
			float(p)
		}
	}
	whole(uint64(len(w.Touches)))
	for _, t := range w.Touches {
		for _, n := range []int{t.Pair.A, t.Pair.PartA, t.Pair.B, t.Pair.PartB} {
			whole(uint64(n))
		}
		is(t.Sensor)
		place(t.Normal)
		whole(uint64(len(t.Points)))
		for _, p := range t.Points {
			place(p.At)
			float(p.Depth)
			whole(uint64(p.ID))
			float(p.Push)
			float(p.Drag)
		}
	}
	whole(uint64(w.Tick))
	return l
}

func sameState(a, b api.State) bool { return slices.Equal(numbers(a), numbers(b)) }

// sumOf is what Sum is to tell.
func sumOf(l []uint64) uint64 {
	var s uint64 = 14695981039346656037
	for _, n := range l {
		s ^= n
		s *= 1099511628211
	}
	return s
}

// counts tell how often a thing came up.
type counts map[string]int

// stillsOf are told of all slots.
func stillsOf(w api.State) []api.Still {
	l := make([]api.Still, len(w.Bodies))
	for i, s := range w.Bodies {
		if s.Live {
			l[i], _ = body.Still(s.Body)
		}
	}
	return l
}

// claimed are the rows of a joint or touch, behind so many others; none, if one of them is refused.
func claimed(w api.State, own []api.Row, e api.Errno, ahead int) []api.Row {
	if e != api.OK {
		return nil
	}
	for _, r := range own {
		if rows.Check(r, ahead+len(own), len(w.Bodies)) != api.OK {
			return nil
		}
	}
	return own
}

// acted is one island of a step of which the state is its own.
func acted(w api.State, slots []int, count counts) {
	joints, _ := island.Joints(w, slots)
	touches, _ := island.Touches(w, slots)
	for _, slot := range slots {
		w.Bodies[slot].Body, _ = body.Push(w.Bodies[slot].Body, w.Settings.Gravity, w.Settings.Step)
	}
	var all []api.Row
	ofJoint, ofTouch := map[int][2]int{}, map[int][2]int{}
	for _, n := range joints {
		j := w.Joints[n].Joint
		own, e := joint.Rows(j, int(j.A.Slot), int(j.B.Slot), w.Bodies[j.A.Slot].Body, w.Bodies[j.B.Slot].Body, w.Settings)
		asked := len(own)
		own = claimed(w, own, e, len(all))
		ofJoint[n] = [2]int{len(all), len(all) + len(own)}
		all = append(all, own...)
		if len(own) > 0 {
			count["joint with rows"]++
		} else if asked > 0 {
			count["joint with an endless row"]++
		} else {
			count["joint without rows"]++
		}
	}
	for _, n := range touches {
		t := w.Touches[n]
		own, e := rows.Touch(t, w.Bodies[t.Pair.A].Body, w.Bodies[t.Pair.B].Body, w.Settings, len(all))
		asked := len(own)
		own = claimed(w, own, e, len(all))
		ofTouch[n] = [2]int{len(all), len(all) + len(own)}
		all = append(all, own...)
		if len(own) > 0 {
			count["touch with rows"]++
		} else if asked > 0 {
			count["touch with an endless row"]++
		} else {
			count["touch of what went wild"]++
		}
	}
	all, stills, _ := solve.All(all, stillsOf(w), w.Settings.Rounds)
	for _, slot := range slots {
		if b := &w.Bodies[slot].Body; !body.Wild(*b) {
			b.Speed, b.Spin = stills[slot].Speed, stills[slot].Spin
		}
	}
	for n, of := range ofJoint {
		w.Joints[n].Joint, _ = joint.Keep(w.Joints[n].Joint, all[of[0]:of[1]])
	}
	for n, of := range ofTouch {
		if of[0] < of[1] {
			w.Touches[n], _ = rows.Keep(w.Touches[n], all[of[0]:of[1]])
		}
	}
	for _, slot := range slots {
		w.Bodies[slot].Body = wentOn(w, slot, count)
	}
}

// wentOn is a body of an island after its speed.
func wentOn(w api.State, slot int, count counts) api.Body {
	lay := w.Bodies[slot].Body
	b, _ := body.Go(lay, w.Settings.Step)
	if !lay.Bullet {
		return b
	}
	var still []api.Body
	for _, s := range w.Bodies {
		if s.Live && s.Body.Kind == api.Fixed {
			still = append(still, s.Body)
		}
	}
	part, e := impact.Body(lay, b.Frame, still)
	switch {
	case e != api.OK:
		count["bullet that is refused"]++
	case part < 1:
		if f, e := impact.Frame(lay.Frame, b.Frame, part); e == api.OK {
			b.Frame = f
			count["bullet that is stopped"]++
		}
	default:
		count["bullet that goes on"]++
	}
	return b
}

// plain is a step of a state that is not refused.
func plain(given api.State, count counts) (api.State, []api.Event) {
	w := copied(given)
	w.Touches, _ = pairs.Touches(w.Bodies, given.Touches)
	told, _ := pairs.Events(given.Touches, w.Touches)
	islands, _ := island.Of(w)
	w, woke, _ := sleep.Wake(w, islands)
	for _, slots := range islands {
		awake := false
		for _, slot := range slots {
			awake = awake || !w.Bodies[slot].Body.Asleep
		}
		if awake {
			count["awake"]++
			acted(w, slots, count)
		} else {
			count["asleep"]++
		}
	}
	for i, s := range w.Bodies {
		if s.Live && s.Body.Kind == api.Moved {
			w.Bodies[i].Body, _ = body.Go(s.Body, w.Settings.Step)
		}
	}
	w, fell, _ := sleep.Rest(w, islands)
	told = slices.Concat(told, woke, fell)
	for i, s := range w.Bodies {
		if !s.Live {
			continue
		}
		w.Bodies[i].Body.Force, w.Bodies[i].Body.Torque = api.Vec{}, 0
		if body.Wild(s.Body) && !body.Wild(given.Bodies[i].Body) {
			told = append(told, api.Event{Kind: 5, Pair: api.Pair{A: i}})
		}
	}
	w.Tick++
	for _, e := range told {
		count[[...]string{"", "began", "ended", "fell asleep", "woke", "went wild"}[e.Kind]]++
	}
	return w, told
}
