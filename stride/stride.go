// Package stride is one step of a state, as shared/doc/25-step.md says it. Who calls it has its islands acted on in whatever order, or at the same time: step goes through them one by one, crew has workers do it.
package stride

import (
	"slices"

	"tumble/api"
	"tumble/body"
	"tumble/impact"
	"tumble/island"
	"tumble/joint"
	"tumble/pairs"
	"tumble/rows"
	"tumble/sleep"
	"tumble/solve"
)

// MaxTick is the last one: there is no step of it. It is 64 bits wide on all machines, unlike an int.
const MaxTick int64 = 1 << 53

// wentWild is the kind of the events that a step has of itself; the others come from the layers that it calls.
const wentWild uint8 = 5

// Each has act called for each number from 0 to n - 1, once, in whatever order, at the same time too. It answers what refused one of them, and may leave out the others then.
type Each func(n int, act func(i int) api.Errno) api.Errno

// must lets nothing pass that is refused: however deep within a step that is, it ends the step as a whole.
func must(e api.Errno) {
	if e != api.OK {
		panic(e)
	}
}

// caught is what was refused in a part of a step.
func caught(part func()) (e api.Errno) {
	defer func() {
		if why := recover(); why != nil {
			e = why.(api.Errno)
		}
	}()
	part()
	return api.OK
}

// sure is an answer that is not refused.
func sure[T any](answer T, e api.Errno) T {
	must(e)
	return answer
}

// claims are the rows of an island, and how many of them each of its joints, then each of its touches, has.
type claims struct {
	rows   []api.Row
	counts []int
}

// add takes what a joint or a touch asks: all of it, or nothing, where that was refused or a row may not be.
func (c *claims) add(own []api.Row, refused api.Errno, bodies int) {
	all := len(c.rows) + len(own)
	isWrong := func(r api.Row) bool { return rows.Check(r, all, bodies) != api.OK }
	if refused != api.OK || slices.ContainsFunc(own, isWrong) {
		own = nil
	}
	c.rows, c.counts = append(c.rows, own...), append(c.counts, len(own))
}

// take are the rows of the first joint or touch of which they were not taken.
func (c *claims) take() []api.Row {
	n := c.counts[0]
	own := c.rows[:n]
	c.rows, c.counts = c.rows[n:], c.counts[1:]
	return own
}

// work is a step on its way.
type work struct {
	before api.State   // with the touches found anew, as the islands wake; only read
	state  api.State   // in memory of its own
	fixed  []api.Body  // by rising slots
	stills []api.Still // as before
	told   []api.Event

	islands, awake [][]int
}

// begun is a step with its touches and islands, all of these awake that must be.
func begun(w api.State) *work {
	touches := sure(pairs.Touches(w.Bodies, w.Touches))
	// Rounding can make a touch near MaxReal deeper than touches may be. Events are refused of such a one, the step is not: none are told then.
	told, _ := pairs.Events(w.Touches, touches)
	w.Touches = touches
	islands := sure(island.Of(w))
	w, woken, e := sleep.Wake(w, islands)
	must(e)
	s := &work{before: w, state: w, islands: islands, told: append(told, woken...)}
	s.state.Bodies, s.state.Joints, s.state.Touches = slices.Clone(w.Bodies), slices.Clone(w.Joints), slices.Clone(w.Touches)
	s.stills = make([]api.Still, len(w.Bodies))
	for slot, l := range w.Bodies {
		if l.Live {
			s.stills[slot] = sure(body.Still(l.Body))
		}
		if l.Body.Kind == api.Fixed {
			s.fixed = append(s.fixed, l.Body)
		}
	}
	for _, slots := range islands {
		if s.isAwake(slots) {
			s.awake = append(s.awake, slots)
		}
	}
	return s
}

func (s *work) body(slot int) *api.Body { return &s.state.Bodies[slot].Body }

func (s *work) isAwake(slots []int) bool {
	return slices.ContainsFunc(slots, func(slot int) bool { return !s.body(slot).Asleep })
}

// act is all that happens to one island. It touches no other one, so that another one may be acted on at the same time: of the state it changes its own bodies, joints and touches, and reads these and what is not free; all else is told of the state before.
func (s *work) act(slots []int) {
	joints := sure(island.Joints(s.before, slots))
	touches := sure(island.Touches(s.before, slots))
	stills := s.pushed(slots)
	c := s.claims(joints, touches)
	c.rows = s.solved(c.rows, stills, slots)
	s.keep(c, joints, touches)
	s.goOn(slots)
}

// pushed are the stills after an island's push. Those of other islands are as before: no row of this one is of their bodies.
func (s *work) pushed(slots []int) []api.Still {
	stills := slices.Clone(s.stills)
	for _, slot := range slots {
		b := s.body(slot)
		*b = sure(body.Push(*b, s.state.Settings.Gravity, s.state.Settings.Step))
		stills[slot] = sure(body.Still(*b))
	}
	return stills
}

func (s *work) claims(joints, touches []int) claims {
	var c claims
	for _, n := range joints {
		j := s.state.Joints[n].Joint
		a, b := int(j.A.Slot), int(j.B.Slot)
		own, e := joint.Rows(j, a, b, *s.body(a), *s.body(b), s.state.Settings)
		c.add(own, e, len(s.stills))
	}
	for _, n := range touches {
		t := s.state.Touches[n]
		own, e := rows.Touch(t, *s.body(t.Pair.A), *s.body(t.Pair.B), s.state.Settings, len(c.rows))
		c.add(own, e, len(s.stills))
	}
	return c
}

// solved are an island's rows after all rounds; its bodies take their speeds. A wild one, which has none of its own in the stills, stays.
func (s *work) solved(l []api.Row, stills []api.Still, slots []int) []api.Row {
	l, stills, e := solve.All(l, stills, s.state.Settings.Rounds)
	must(e)
	for _, slot := range slots {
		if b := s.body(slot); !body.Wild(*b) {
			b.Speed, b.Spin = stills[slot].Speed, stills[slot].Spin
		}
	}
	return l
}

// keep gives the joints and touches the impulses of their rows. A touch that was left out keeps those that it had.
func (s *work) keep(c claims, joints, touches []int) {
	for _, n := range joints {
		j := &s.state.Joints[n].Joint
		*j = sure(joint.Keep(*j, c.take()))
	}
	for _, n := range touches {
		if own := c.take(); len(own) > 0 {
			t := &s.state.Touches[n]
			*t = sure(rows.Keep(*t, own))
		}
	}
}

// gone is a body after its speed for a step, whatever stands in its way.
func (s *work) gone(b api.Body) api.Body { return sure(body.Go(b, s.state.Settings.Step)) }

// stopped is how far a body comes on its way to a frame until it meets what is fixed. Where that can't be told, it goes all the way.
func (s *work) stopped(b api.Body, to api.Frame) api.Frame {
	part, e := impact.Body(b, to, s.fixed)
	if e != api.OK || part >= 1 {
		return to
	}
	at, e := impact.Frame(b.Frame, to, part)
	if e != api.OK {
		return to
	}
	return at
}

func (s *work) goOn(slots []int) {
	for _, slot := range slots {
		b := s.body(slot)
		gone := s.gone(*b)
		if b.Bullet {
			gone.Frame = s.stopped(*b, gone.Frame)
		}
		*b = gone
	}
}

// actAll leaves islands that sleep as they are. What is refused is caught island by island, for on another goroutine nothing else would.
func (s *work) actAll(each Each) {
	must(each(len(s.awake), func(i int) api.Errno {
		return caught(func() { s.act(s.awake[i]) })
	}))
}

// carry moves on what goes its way whatever it meets.
func (s *work) carry() {
	for slot := range s.state.Bodies {
		if b := s.body(slot); b.Kind == api.Moved {
			*b = s.gone(*b)
		}
	}
}

func (s *work) rest() {
	w, fallen, e := sleep.Rest(s.state, s.islands)
	must(e)
	s.state, s.told = w, append(s.told, fallen...)
}

// end takes away what acted for this step alone, and tells of what went wild in it.
func (s *work) end(before []api.Slot) {
	for slot := range s.state.Bodies {
		b := s.body(slot)
		b.Force, b.Torque = api.Vec{}, 0
		if body.Wild(*b) && !body.Wild(before[slot].Body) {
			s.told = append(s.told, api.Event{Kind: wentWild, Pair: api.Pair{A: slot}})
		}
	}
	s.state.Tick++
}

// Step is the state a step later, and what it tells, if the state may be; each is called once, with as many islands as are to be solved.
func Step(w api.State, each Each) (api.State, []api.Event, api.Errno) {
	if int64(w.Tick) == MaxTick {
		return api.State{}, nil, api.ErrMany
	}
	var s *work
	refused := caught(func() {
		s = begun(w)
		s.actAll(each)
		s.carry()
		s.rest()
		s.end(w.Bodies)
	})
	if refused != api.OK {
		return api.State{}, nil, refused
	}
	return s.state, s.told, api.OK
}
