package step_test

import (
	"math"
	"slices"
	"testing"

	"tumble/api"
	"tumble/body"
	"tumble/joint"
	"tumble/step"
	"tumble/touch"
)

func TestExamples(t *testing.T) {
	isErr(t, step.Check(first()), api.OK, "Check")
	for i, c := range []struct {
		spoil func(w *api.State)
		want  api.Errno
	}{
		{func(w *api.State) { w.Settings.Step = 0 }, api.ErrSettings},
		{func(w *api.State) { w.Tick = -1 }, api.ErrWorld},
		{func(w *api.State) { w.Bodies = append(w.Bodies, api.Slot{Body: api.Body{Kind: 1}}) }, api.ErrWorld},
		{func(w *api.State) { w.Touches = []api.Touch{{}} }, api.ErrArg},
		{func(w *api.State) { w.Touches = []api.Touch{touchOf(0, 0)} }, api.ErrArg},
	} {
		w := first()
		c.spoil(&w)
		isErr(t, step.Check(w), c.want, "Check", i)
	}
	next, told := one(t, first())
	if b := next.Bodies[0].Body; b.Speed != v(0, -0.15625) || b.Frame.At != v(0, 9.99755859375) || next.Tick != 1 {
		t.Errorf("One is %v", next)
	}
	isTold(t, told)
	w := first()
	w.Bodies[0].Body.Speed.X = inf
	_, told = one(t, w)
	isTold(t, told)
	w = first()
	w.Bodies[0].Body.Force.X, w.Bodies[0].Body.Parts[0].Density = 0x1p1023, 0x1p-20
	_, told = one(t, w)
	isTold(t, told, event(5, 0))
	if !sameState(run(t, first(), 0), first()) || !sameState(run(t, first(), 1), next) {
		t.Error("Run of no step, or of one, is another one")
	}
	_, e := step.Run(first(), 4097)
	isErr(t, e, api.ErrArg, "Run", 4097)
	_, told = one(t, world(free(0, 1.875), fixed(0, 0)))
	isTold(t, told, api.Event{Kind: 1, Pair: api.Pair{B: 1}})
	w = first()
	w.Tick = 1
	if step.Sum(first()) == step.Sum(w) {
		t.Error("the Tick is not in the Sum")
	}
}

func TestP25_1Usual(t *testing.T) {
	if got := step.Usual(); got != usual() {
		t.Errorf("Usual is %v", got)
	}
	isErr(t, step.Settings(step.Usual()), api.OK, "Settings")
}

func TestP25_1Settings(t *testing.T) {
	wrong := []float64{none, inf, -inf, past, -past, -1, -tiny}
	bound := []float64{minus, 0, tiny, 1, api.MaxReal}
	for name, c := range map[string]struct {
		of         func(s *api.Settings) *float64
		may, maynt []float64
	}{
		"Step":      {func(s *api.Settings) *float64 { return &s.Step }, []float64{api.MinReal, 1, api.MaxReal}, append([]float64{0, minus, tiny, math.Nextafter(api.MinReal, 0)}, wrong...)},
		"Gravity.X": {func(s *api.Settings) *float64 { return &s.Gravity.X }, []float64{minus, -api.MaxReal, api.MaxReal, tiny}, []float64{none, inf, -inf, past, -past}},
		"Gravity.Y": {func(s *api.Settings) *float64 { return &s.Gravity.Y }, []float64{minus, -api.MaxReal, api.MaxReal, tiny}, []float64{none, inf, -inf, past, -past}},
		"Slop":      {func(s *api.Settings) *float64 { return &s.Slop }, bound, wrong},
		"Threshold": {func(s *api.Settings) *float64 { return &s.Threshold }, bound, wrong},
		"CalmSpeed": {func(s *api.Settings) *float64 { return &s.CalmSpeed }, bound, wrong},
		"CalmSpin":  {func(s *api.Settings) *float64 { return &s.CalmSpin }, bound, wrong},
		"Share":     {func(s *api.Settings) *float64 { return &s.Share }, []float64{minus, 0, tiny, 0.5, 1}, append([]float64{math.Nextafter(1, 2)}, wrong...)},
	} {
		for _, f := range c.may {
			s := usual()
			*c.of(&s) = f
			isErr(t, step.Settings(s), api.OK, "Settings", name, f)
		}
		for _, f := range c.maynt {
			s := usual()
			*c.of(&s) = f
			isErr(t, step.Settings(s), api.ErrSettings, "Settings", name, f)
		}
	}
}

func TestP25_1Counts(t *testing.T) {
	for n, want := range map[int]api.Errno{math.MinInt: api.ErrSettings, -1: api.ErrSettings, 0: api.OK, 64: api.OK, 65: api.ErrSettings, math.MaxInt: api.ErrSettings} {
		s := usual()
		s.Rounds = n
		isErr(t, step.Settings(s), want, "Settings of rounds", n)
	}
	for n, want := range map[int]api.Errno{math.MinInt: api.ErrSettings, 0: api.ErrSettings, 1: api.OK, 1 << 53: api.OK, 1<<53 + 1: api.ErrSettings, math.MaxInt: api.ErrSettings} {
		s := usual()
		s.CalmSteps = n
		isErr(t, step.Settings(s), want, "Settings of calm steps", n)
	}
	isErr(t, step.Settings(api.Settings{}), api.ErrSettings, "Settings of nothing")
}

// well is a state that has some of all, and may be.
func well() api.State {
	w := world(free(0, 10), fixed(0, 0), api.Slot{Use: 3}, free(5, 5), moved(9, 9, v(1, 1)), free(7, 0))
	w.Joints = []api.JointSlot{joined(jointOf(api.Pin, 0, 3)), {Use: 2}, {}, joined(jointOf(api.Rail, 1, 5))}
	w.Touches = []api.Touch{touchOf(0, 1), touchOf(0, 3), touchOf(1, 3)}
	return w
}

type fault struct {
	name  string
	spoil func(w *api.State)
	want  api.Errno
}

// faults are one of each clause of P25.2, in its order; each is of another slot or touch than those that follow, but where a clause has to be ahead of another one of the same slot.
func faults() []fault {
	bodyOf := func(w *api.State, slot int) *api.Body { return &w.Bodies[slot].Body }
	jointOf := func(w *api.State, slot int) *api.Joint { return &w.Joints[slot].Joint }
	return []fault{
		{"settings", func(w *api.State) { w.Settings.Share = 2 }, api.ErrSettings},
		{"many bodies", func(w *api.State) { w.Bodies = append(w.Bodies, make([]api.Slot, 1025-len(w.Bodies))...) }, api.ErrMany},
		{"many joints", func(w *api.State) { w.Joints = append(w.Joints, make([]api.JointSlot, 1025-len(w.Joints))...) }, api.ErrMany},
		{"many touches", func(w *api.State) { w.Touches = append(w.Touches, make([]api.Touch, 1<<16+1-len(w.Touches))...) }, api.ErrMany},
		{"use of a body", func(w *api.State) { w.Bodies[0].Use = 0 }, api.ErrWorld},
		{"a body", func(w *api.State) { bodyOf(w, 0).Damp = -1 }, api.ErrReal},
		{"a free slot", func(w *api.State) { bodyOf(w, 2).Spin = 1 }, api.ErrWorld},
		{"another body", func(w *api.State) { bodyOf(w, 3).Parts = nil }, api.ErrBody},
		{"a free body without mass", func(w *api.State) { bodyOf(w, 5).Parts[0].Density = 0 }, api.ErrMass},
		{"use of a joint", func(w *api.State) { w.Joints[0].Use = 0 }, api.ErrWorld},
		{"a joint", func(w *api.State) { jointOf(w, 0).Kind = 9 }, api.ErrJoint},
		{"a handle", func(w *api.State) { jointOf(w, 0).B.Use = 7 }, api.ErrWorld},
		{"a joint's float", func(w *api.State) { jointOf(w, 0).Rest = none }, api.ErrReal},
		{"a free slot of joints", func(w *api.State) { jointOf(w, 1).Kind = 1 }, api.ErrWorld},
		{"another joint", func(w *api.State) { jointOf(w, 3).Axis = v(2, 0) }, api.ErrJoint},
		{"a touch", func(w *api.State) { w.Touches[0].Points = nil }, api.ErrArg},
		{"a pair", func(w *api.State) { w.Touches[0].Pair.B = 2 }, api.ErrWorld},
		{"another touch", func(w *api.State) { w.Touches[1].Normal = v(1, 1) }, api.ErrArg},
		{"the order", func(w *api.State) { w.Touches[2].Pair = w.Touches[1].Pair }, api.ErrWorld},
		{"the tick", func(w *api.State) { w.Tick = -1 }, api.ErrWorld},
	}
}

func TestP25_2Order(t *testing.T) {
	isErr(t, step.Check(well()), api.OK, "Check")
	l := faults()
	for i, f := range l {
		w := well()
		f.spoil(&w)
		isErr(t, step.Check(w), f.want, "Check", f.name)
		isRefused(t, w, f.want)
		for _, g := range l[i+1:] {
			w := well()
			g.spoil(&w)
			f.spoil(&w)
			want := f.want
			if f.name == "a handle" && (g.name == "a joint's float") {
				// Of one joint its own error is ahead of its handles'.
				want = g.want
			}
			isErr(t, step.Check(w), want, "Check", f.name, g.name)
		}
	}
}

func TestP25_2Lengths(t *testing.T) {
	w := api.State{Settings: usual()}
	isErr(t, step.Check(w), api.OK, "Check of nothing")
	isErr(t, step.Check(api.State{}), api.ErrSettings, "Check of no settings")
	w.Bodies, w.Joints = make([]api.Slot, 1024), make([]api.JointSlot, 1024)
	isErr(t, step.Check(w), api.OK, "Check of 1024 slots")
	for slot := range w.Bodies {
		w.Bodies[slot] = fixed(0, 0)
	}
	for a := 0; len(w.Touches) < 1<<16; a++ {
		for b := a + 1; b < 1024 && len(w.Touches) < 1<<16; b++ {
			w.Touches = append(w.Touches, touchOf(a, b))
		}
	}
	isErr(t, step.Check(w), api.OK, "Check of 65536 touches")
	w.Touches = append(w.Touches, touchOf(1022, 1023))
	isErr(t, step.Check(w), api.ErrMany, "Check of 65537 touches")
}

func TestP25_2Slots(t *testing.T) {
	for _, use := range []uint32{1, 2, math.MaxUint32} {
		w := first()
		w.Bodies[0].Use = use
		isErr(t, step.Check(w), api.OK, "Check of the Use", use)
	}
	for _, use := range []uint32{0, 1, math.MaxUint32} {
		w := world(api.Slot{Use: use})
		w.Joints = []api.JointSlot{{Use: use}}
		isErr(t, step.Check(w), api.OK, "Check of a free slot, used", use)
	}
	w := world(api.Slot{Body: api.Body{Parts: []api.Part{}}})
	isErr(t, step.Check(w), api.OK, "Check of a list without elements")
	w = first()
	w.Bodies[0].Live = false
	isErr(t, step.Check(w), api.ErrWorld, "Check of a body that lies in no slot")
	w = world(api.Slot{Use: 1, Live: true})
	isErr(t, step.Check(w), api.ErrBody, "Check of a slot without a body")
}

// TestP25_2Motion: a body may have any motion in a state, and a Fixed one too.
func TestP25_2Motion(t *testing.T) {
	for _, kind := range []uint8{api.Fixed, api.Moved, api.Free} {
		for i := range motion {
			for _, f := range []float64{none, inf, -inf, math.MaxFloat64, minus, tiny, 1} {
				w := world(ball(kind, 0, 0))
				set(&w.Bodies[0].Body, i, f)
				isErr(t, step.Check(w), api.OK, "Check", kind, i, f)
			}
		}
	}
}

// TestP25_2Zero: what lies in a free slot is nought in each of its numbers.
func TestP25_2Zero(t *testing.T) {
	w := world(api.Slot{Body: api.Body{Parts: []api.Part{{}}}})
	isErr(t, step.Check(w), api.ErrWorld, "Check of a part in a free slot")
	for i, change := range ofBody() {
		w := world(api.Slot{Use: 1})
		change(&w.Bodies[0].Body)
		isErr(t, step.Check(w), api.ErrWorld, "Check of a number of a free body", i)
	}
	for i, change := range ofJoint() {
		w := first()
		w.Joints = []api.JointSlot{{Use: 1}}
		change(&w.Joints[0].Joint)
		isErr(t, step.Check(w), api.ErrWorld, "Check of a number of a free joint", i)
	}
	for i := range motion {
		w := world(api.Slot{})
		set(&w.Bodies[0].Body, i, minus)
		isErr(t, step.Check(w), api.ErrWorld, "Check of a minus in a free body", i)
	}
	w = first()
	w.Joints = []api.JointSlot{{Joint: api.Joint{Push: [3]float64{0, 0, minus}}}}
	isErr(t, step.Check(w), api.ErrWorld, "Check of a minus in a free joint")
}

func TestP25_2Handles(t *testing.T) {
	for i, c := range []struct {
		a, b api.Handle
		want api.Errno
	}{
		{handle(0), handle(1), api.OK},
		{handle(3), handle(0), api.OK},
		{handle(0), api.Handle{Slot: 1, Use: 0}, api.ErrWorld},
		{api.Handle{Slot: 0, Use: 2}, handle(1), api.ErrWorld},
		{handle(0), api.Handle{Slot: 2, Use: 3}, api.ErrWorld},
		{handle(0), handle(2), api.ErrWorld},
		{handle(6), handle(1), api.ErrWorld},
		{handle(0), api.Handle{Slot: math.MaxUint32, Use: 1}, api.ErrWorld},
		{handle(0), handle(0), api.ErrJoint},
	} {
		w := well()
		w.Joints[0].Joint.A, w.Joints[0].Joint.B = c.a, c.b
		isErr(t, step.Check(w), c.want, "Check", i)
		// In a free slot of joints a handle is none, but a joint that is not the zero one.
		w.Joints[0].Live = false
		isErr(t, step.Check(w), api.ErrWorld, "Check of it in a free slot", i)
	}
	w := well()
	w.Bodies[3].Use, w.Joints[0].Joint.B.Use = 8, 8
	isErr(t, step.Check(w), api.OK, "Check of another Use")
}

func TestP25_2Pairs(t *testing.T) {
	two := func(a, partA, b, partB int) api.Pair { return api.Pair{A: a, PartA: partA, B: b, PartB: partB} }
	for i, c := range []struct {
		pair api.Pair
		want api.Errno
	}{
		{two(0, 0, 1, 0), api.OK},
		{two(1, 0, 2, 1), api.ErrWorld}, // a free slot
		{two(2, 0, 3, 0), api.ErrWorld},
		{two(0, 0, 3, 1), api.OK},
		{two(0, 0, 3, 2), api.ErrWorld}, // no such part
		{two(0, 1, 3, 0), api.ErrWorld},
		{two(3, 1, 5, 0), api.OK},
		{two(3, 0, 6, 0), api.ErrWorld}, // no such slot
		{two(1, 0, 0, 0), api.ErrWorld}, // the wrong way round
		{two(0, 0, 0, 0), api.ErrArg},
		{two(-1, 0, 0, 0), api.ErrArg},
		{two(0, 0, 1, 8), api.ErrArg},
		{two(0, -1, 1, 0), api.ErrArg},
		{two(0, 0, math.MaxInt, 0), api.ErrWorld},
	} {
		w := well()
		w.Bodies[3].Body.Parts = append(w.Bodies[3].Body.Parts, part(disc(2)))
		w.Touches = []api.Touch{touchOf(0, 1)}
		w.Touches[0].Pair = c.pair
		isErr(t, step.Check(w), c.want, "Check", i, c.pair)
	}
}

// TestP25_2Rising: touches stand in the row of pairs, none twice.
func TestP25_2Rising(t *testing.T) {
	l := []api.Pair{{A: 0, B: 1}, {A: 0, B: 1, PartB: 1}, {A: 0, B: 3}, {A: 0, PartA: 1, B: 1}, {A: 0, PartA: 1, B: 1, PartB: 1}, {A: 1, B: 3}, {A: 1, PartA: 1, B: 3}}
	for i, p := range l {
		for k, q := range l {
			w := well()
			for _, slot := range []int{0, 1} {
				w.Bodies[slot].Body.Parts = append(w.Bodies[slot].Body.Parts, part(disc(2)))
			}
			w.Touches = []api.Touch{touchOf(0, 1), touchOf(0, 1)}
			w.Touches[0].Pair, w.Touches[1].Pair = p, q
			want := api.ErrWorld
			if i < k {
				want = api.OK
			}
			isErr(t, step.Check(w), want, "Check", p, q)
		}
	}
}

// TestP25_2Others: the layers below tell the errors of what they make.
func TestP25_2Others(t *testing.T) {
	s, count := source(1), map[api.Errno]int{}
	for range 3000 {
		w := well()
		b, j, press := &w.Bodies[0].Body, &w.Joints[0].Joint, &w.Touches[0]
		switch s.below(3) {
		case 0:
			p := &b.Parts[0]
			*[]*float64{&p.Shape.Radius, &p.Shape.Points[0].X, &p.Density, &p.Friction, &p.Bounce, &b.Damp}[s.below(6)] = s.pick(s.wide(), -1, 2, 0)
			still := *b
			still.Frame, still.Speed = api.Frame{Turn: 1}, v(0, 0)
			isErr(t, step.Check(w), body.Check(still), "Check of a body", still)
		case 1:
			*[]*float64{&j.AtA.X, &j.AtB.Y, &j.Axis.X, &j.Rest, &j.Ratio, &j.Speed, &j.Most, &j.Low, &j.High, &j.Push[2]}[s.below(10)] = s.pick(s.wide(), -1, 2, 0)
			j.Kind = uint8(s.below(7))
			isErr(t, step.Check(w), joint.Check(*j), "Check of a joint", *j)
		case 2:
			p := &press.Points[0]
			*[]*float64{&press.Normal.X, &press.Normal.Y, &p.At.X, &p.Depth, &p.Push, &p.Drag}[s.below(6)] = s.pick(s.wide(), -1, 2, 0)
			isErr(t, step.Check(w), touch.Check(*press), "Check of a touch", *press)
		}
		count[step.Check(w)]++
	}
	enough(t, count, 20, api.OK, api.ErrReal, api.ErrJoint, api.ErrArg, api.ErrMass)
}

func TestP25_2Tick(t *testing.T) {
	for tick, want := range map[int]api.Errno{math.MinInt: api.ErrWorld, -1: api.ErrWorld, 0: api.OK, 1: api.OK, mostTick: api.OK, mostTick + 1: api.ErrWorld, math.MaxInt: api.ErrWorld} {
		w := first()
		w.Tick = tick
		isErr(t, step.Check(w), want, "Check of the Tick", tick)
	}
}

// isStep holds One to what the chapter says, told once more.
func isStep(t *testing.T, w api.State, count counts) api.State {
	t.Helper()
	next, told := one(t, w)
	want, events := plain(w, count)
	if !sameState(next, want) {
		t.Fatalf("One of %#v is %#v, not %#v", w, next, want)
	}
	if !slices.Equal(told, events) {
		t.Fatalf("One of %#v tells %v, not %v", w, told, events)
	}
	return next
}

func TestP25_3Plain(t *testing.T) {
	s, count := source(2), counts{}
	for range 250 {
		w := s.state(1 + s.below(14))
		for range 8 {
			w = isStep(t, w, count)
		}
	}
	enough(t, count, 30, "awake", "asleep", "joint with rows", "joint without rows", "touch with rows", "began", "ended", "fell asleep", "woke", "bullet that is stopped", "bullet that goes on")
}

// TestP25_3Strange: the same of worlds in which floats are such as few have.
func TestP25_3Strange(t *testing.T) {
	s, count := source(3), counts{}
	for range 1200 {
		w := s.strange(2 + s.below(10))
		w = isStep(t, w, count)
		for _, slot := range slotsOf(w, isFree) {
			if s.once(6) {
				set(&w.Bodies[slot].Body, s.below(motion), s.wide())
			}
		}
		isStep(t, w, count)
	}
	enough(t, count, 10, "joint with an endless row", "touch of what went wild", "went wild", "bullet that is refused")
	enough(t, count, 1, "touch with an endless row")
}

// TestP25_3Touches: the touches are those of where the bodies lie when the step begins, and keep their impulses.
func TestP25_3Touches(t *testing.T) {
	w := world(free(0, 1.875), fixed(0, 0), free(9, 0), free(9, 5))
	w.Settings.Rounds = 0
	w.Touches = []api.Touch{touchOf(0, 1), touchOf(1, 2), touchOf(2, 3)}
	w.Touches[0].Points[0].Push = 3
	next, told := one(t, w)
	isTold(t, told, api.Event{Kind: 2, Pair: api.Pair{A: 1, B: 2}}, api.Event{Kind: 2, Pair: api.Pair{A: 2, B: 3}})
	if len(next.Touches) != 1 || next.Touches[0].Normal != v(0, -1) || next.Touches[0].Points[0].Depth != 0.125 || next.Touches[0].Points[0].Push != 3 {
		t.Errorf("the touches are %v", next.Touches)
	}
	weight := 1 / math.Pi
	if got, want := next.Bodies[0].Body.Speed.Y, 3*weight-10.0/64; math.Abs(got-want) > 1e-9 {
		t.Errorf("the impulse of before makes the speed %v, not %v", got, want)
	}
}

// deep are two of the greatest parts, in such places that rounding makes their touch deeper than touches may be.
func deep() (api.Slot, api.Slot) {
	a, b := thing(api.Fixed, 0, 0, pill(0x1p40, 0)), thing(api.Free, 0, 0, disc(0x1p40))
	a.Body.Parts[0].Shape.Points = []api.Vec{v(3.938972528580984e+11, 1.0791179944454739e+12), v(-1.454778705193929e+11, -1.0783824988921661e+12)}
	b.Body.Parts[0].Shape.Points[0] = v(-1.3944422693673132e+11, -1.0542479245634475e+12)
	return a, b
}

// apart is a body that meets none but others like it.
func apart(s api.Slot) api.Slot {
	s.Body.Parts[0].Layer, s.Body.Parts[0].Mask = 2, 2
	return s
}

// TestP25_3Deep: a touch that is too deep for Events is none for a step. It is told as it is, and asks nothing; no events of touches are told then, all others are; only the state behind it may not be.
func TestP25_3Deep(t *testing.T) {
	a, b := deep()
	driver := apart(moved(3, 1.5, v(1, 0)))
	asleep := apart(free(3, 0))
	asleep.Body.Asleep, asleep.Body.Calm = true, 7
	wild := apart(free(9, 9))
	wild.Body.Force, wild.Body.Parts[0].Density = v(0x1p1023, 0), 0x1p-20
	for _, w := range []api.State{world(a, b, asleep, driver, wild), world(b, a, asleep, driver, wild)} {
		ended, old := touchOf(1, 4), touchOf(0, 1)
		old.Points[0].Push, old.Points[0].Drag = 2, 3
		for _, touches := range [][]api.Touch{nil, {ended}, {old}, {old, ended}} {
			w.Touches = touches
			isErr(t, step.Check(w), api.OK, "Check")
			next := isStep(t, w, counts{})
			_, told := one(t, w)
			isTold(t, told, event(4, 2), event(5, 4))
			if len(next.Touches) != 2 || next.Touches[0].Pair != (api.Pair{B: 1}) || len(next.Touches[0].Points) != 3 {
				t.Fatalf("the touches are %v", next.Touches)
			}
			for _, p := range next.Touches[0].Points {
				if p.Push != 0 || p.Drag != 0 {
					t.Errorf("the point %v was pushed", p)
				}
			}
			again, e := step.Run(w, 1)
			if e != api.OK || !sameState(again, next) {
				t.Errorf("Run tells %d, %v", e, again)
			}
			isErr(t, step.Check(next), api.ErrArg, "Check of the state behind")
			if again, e = step.Run(w, 2); e != api.ErrArg || text(again) != text(api.State{}) {
				t.Errorf("Run of 2 steps tells %d, %v", e, again)
			}
		}
	}
}

// TestP25_3Waking: an island of which a body is awake is awake as a whole in this step already.
func TestP25_3Waking(t *testing.T) {
	sleeping := func() api.State {
		w := world(free(0, 0), free(1.5, 0), free(9, 0), free(19, 0), moved(20.5, 0, v(0, 0)))
		for slot := range 4 {
			w.Bodies[slot].Body.Asleep, w.Bodies[slot].Body.Calm = true, 50
		}
		next, _ := one(t, w)
		return next
	}
	w := sleeping()
	still := copied(w)
	next, told := one(t, w)
	isTold(t, told)
	if still.Tick++; !sameState(next, still) {
		t.Error("what sleeps goes on")
	}
	for i, c := range []struct {
		wake  func(w *api.State)
		slots []int
	}{
		{func(w *api.State) { w.Bodies[1].Body.Asleep = false }, []int{0, 1}},
		{func(w *api.State) { w.Bodies[0].Body.Torque = 1 }, []int{0, 1}},
		{func(w *api.State) { w.Bodies[2].Body.Force.X = none }, []int{2}},
		{func(w *api.State) { w.Bodies[4].Body.Spin = 1 }, []int{3}},
	} {
		w := sleeping()
		c.wake(&w)
		next, told := one(t, w)
		var want []api.Event
		for _, slot := range c.slots {
			if w.Bodies[slot].Body.Asleep {
				want = append(want, event(4, slot))
			}
		}
		if i == 2 {
			want = append(want, event(5, 2))
		}
		isTold(t, told, want...)
		for slot := range 4 {
			b := next.Bodies[slot].Body
			if woke := slices.Contains(c.slots, slot); b.Asleep == woke || (b.Speed.Y != 0) != woke {
				t.Errorf("%d: the body %d is %v", i, slot, b)
			}
		}
	}
}

// TestP25_3Sensor: what is a sensor's links nothing and pushes nothing, but is told.
func TestP25_3Sensor(t *testing.T) {
	w := world(free(0, 1.5), fixed(0, 0))
	w.Bodies[1].Body.Parts[0].Sensor = true
	next, told := one(t, w)
	isTold(t, told, api.Event{Kind: 1, Pair: api.Pair{B: 1}})
	if b := next.Bodies[0].Body; b.Speed != v(0, -0.15625) || !next.Touches[0].Sensor {
		t.Errorf("it is held up: %v", b)
	}
}

// TestP25_3Push: gravity, forces and damping come ahead of the rows, for one step.
func TestP25_3Push(t *testing.T) {
	w := world(free(0, 0))
	b := &w.Bodies[0].Body
	b.Force, b.Torque, b.Damp, b.SpinDamp = v(64, -32), 16, 2, 4
	want, e := body.Push(*b, w.Settings.Gravity, w.Settings.Step)
	isErr(t, e, api.OK, "Push")
	want, e = body.Go(want, w.Settings.Step)
	isErr(t, e, api.OK, "Go")
	want.Force, want.Torque = v(0, 0), 0
	next, _ := one(t, w)
	if !sameBody(next.Bodies[0].Body, want) {
		t.Errorf("it is %v, not %v", next.Bodies[0].Body, want)
	}
}

// TestP25_3Rows: a joint's rows stand ahead of those of touches, whatever slots they have.
func TestP25_3Rows(t *testing.T) {
	w := world(free(0, 1.875), fixed(0, 0), free(0.5, 3.5))
	w.Joints = []api.JointSlot{{}, joined(jointOf(api.Rod, 2, 0)), joined(jointOf(api.Pin, 0, 2))}
	w.Settings.Rounds = 1
	isStep(t, w, counts{})
	next, _ := one(t, w)
	if next.Joints[1].Joint.Push == (api.Joint{}).Push || next.Joints[2].Joint.Push == (api.Joint{}).Push {
		t.Errorf("the joints keep no impulses: %v", next.Joints)
	}
}

// TestP25_3Wild: a joint and a touch with what went wild just now ask nothing; the one loses its impulses, the other one keeps them.
func TestP25_3Wild(t *testing.T) {
	w := weightless(free(0, 0), free(1.5, 0), free(0, 9))
	w.Bodies[0].Body.Force.X = math.MaxFloat64
	w.Bodies[0].Body.Parts[0].Density = 0x1p-20
	w.Joints = []api.JointSlot{joined(jointOf(api.Rod, 0, 2))}
	w.Joints[0].Joint.Push = [3]float64{1, 2, 3}
	w.Touches = []api.Touch{touchOf(0, 1)}
	w.Touches[0].Points[0].Push, w.Touches[0].Points[0].Drag = 4, 5
	next, told := one(t, w)
	isTold(t, told, event(5, 0))
	if got := next.Joints[0].Joint.Push; got != [3]float64{} {
		t.Errorf("the joint keeps %v", got)
	}
	if p := next.Touches[0].Points[0]; p.Push != 4 || p.Drag != 5 {
		t.Errorf("the touch keeps %v", p)
	}
	if b := next.Bodies[0].Body; b.Speed.X != inf || b.Frame.At != v(0, 0) {
		t.Errorf("the wild body is %v", b)
	}
	for slot := 1; slot < 3; slot++ {
		if b := next.Bodies[slot].Body; b.Speed != v(0, 0) || b.Frame.At != w.Bodies[slot].Body.Frame.At {
			t.Errorf("the body %d is %v", slot, b)
		}
	}
	again, told := one(t, next)
	isTold(t, told, api.Event{Kind: 2, Pair: api.Pair{B: 1}})
	if again.Joints[0].Joint.Push != [3]float64{} || len(again.Touches) != 0 {
		t.Errorf("a wild body is still held: %v", again)
	}
}

// TestP25_3Endless: rows with floats without an end are left out, all of one joint or touch.
func TestP25_3Endless(t *testing.T) {
	w := weightless(free(0, 0), free(9, 0), free(12, 0))
	w.Bodies[1].Body.Frame.At.X = 0x1p1023
	far, well := jointOf(api.Pin, 0, 1), jointOf(api.Rod, 0, 2)
	far.Push = [3]float64{1, 2, 3}
	w.Joints = []api.JointSlot{joined(far), joined(well)}
	next, told := one(t, w)
	isTold(t, told)
	if next.Joints[0].Joint.Push != [3]float64{} || next.Joints[1].Joint.Push[0] == 0 {
		t.Errorf("the joints are %v", next.Joints)
	}
	if next.Bodies[0].Body.Speed.X <= 0 || next.Bodies[1].Body.Speed != v(0, 0) || next.Bodies[2].Body.Speed.X >= 0 {
		t.Errorf("the bodies are %v", next.Bodies)
	}

	w = weightless(free(0, 0), free(1.5, 0), fixed(-1.5, 0))
	b := &w.Bodies[1].Body
	b.Speed.X, b.Parts[0].Bounce = -math.MaxFloat64, 1
	w.Bodies[0].Body.Speed.X = math.MaxFloat64
	w.Touches = []api.Touch{touchOf(0, 1), touchOf(0, 2)}
	w.Touches[0].Points[0].Push, w.Touches[1].Points[0].Drag = 7, 8
	isStep(t, w, counts{})
	next, _ = one(t, w)
	if p := next.Touches[0].Points[0]; p.Push != 7 {
		t.Errorf("the touch with an endless row keeps %v", p)
	}
	if p := next.Touches[1].Points[0]; p.Drag == 8 {
		t.Errorf("the other touch has no rows: %v", p)
	}
}

// TestP25_3Others: rows of one island stand with the speeds of Moved bodies, and leave all others alone.
func TestP25_3Others(t *testing.T) {
	w := weightless(free(0, 0), moved(1.75, 0, v(-4, 0)), fixed(0, -1.75), free(30, 0))
	w.Bodies[0].Body.Speed, w.Bodies[3].Body.Speed = v(0, -1), v(0, -1)
	next, _ := one(t, w)
	if b := next.Bodies[0].Body; b.Speed.X > -3.9 || b.Speed.Y < 0 {
		t.Errorf("it is not carried along: %v", b)
	}
	if b := next.Bodies[1].Body; b.Speed != v(-4, 0) || b.Frame.At != v(1.75-4.0/64, 0) {
		t.Errorf("the Moved one is %v", b)
	}
	if b := next.Bodies[2].Body; b.Speed != v(0, 0) || b.Frame.At != v(0, -1.75) {
		t.Errorf("the Fixed one is %v", b)
	}
	if b := next.Bodies[3].Body; b.Speed != v(0, -1) {
		t.Errorf("the other one is %v", b)
	}
}

// shot is a bullet on its way past slots, and what it would be without a stop.
func shot(l ...api.Slot) api.State {
	b := free(0, 0)
	b.Body.Speed, b.Body.Bullet = v(6400, 0), true
	return weightless(append([]api.Slot{b}, l...)...)
}

func TestP25_3Bullet(t *testing.T) {
	sensor, other, free3 := fixed(20, 0), fixed(30, 0), fixed(40, 0)
	sensor.Body.Parts[0].Sensor = true
	other.Body.Parts[0].Mask = 2
	free3.Body.Kind = api.Free
	wild := fixed(50, 0)
	wild.Body.Spin = none
	for i, c := range []struct {
		w        api.State
		from, to float64
	}{
		{shot(), 100, 100},
		{shot(fixed(20, 0)), 17.9, 18},
		{shot(fixed(60, 0), fixed(20, 0), fixed(40, 0)), 17.9, 18},
		{shot(api.Slot{}, fixed(60, 0), fixed(70, 0)), 57.9, 58},
		{shot(sensor, other, free3, moved(50, 0, v(0, 0)), wild), 100, 100},
		{shot(fixed(1, 0)), 100, 100}, // what it touches at the beginning does not stop it
		{shot(fixed(20, 3)), 100, 100},
	} {
		w := c.w
		next, _ := one(t, w)
		if x := next.Bodies[0].Body.Frame.At.X; i != 5 && !(x >= c.from && x <= c.to) {
			t.Errorf("%d: it goes to %v", i, x)
		}
		if s := next.Bodies[0].Body.Speed; i != 5 && s != v(6400, 0) {
			t.Errorf("%d: its speed is %v", i, s)
		}
		isStep(t, w, counts{})
		w.Bodies[0].Body.Bullet = false
		next, _ = one(t, w)
		if x := next.Bodies[0].Body.Frame.At.X; i != 5 && x != 100 {
			t.Errorf("%d: no bullet, it goes to %v", i, x)
		}
	}
}

// TestP25_3BulletAfar: where impact refuses the way, a bullet goes all of it.
func TestP25_3BulletAfar(t *testing.T) {
	w := shot(fixed(20, 0))
	w.Bodies[0].Body.Speed.X = 0x1p60
	next, _ := one(t, w)
	if x := next.Bodies[0].Body.Frame.At.X; x != 0x1p54 {
		t.Errorf("it goes to %v", x)
	}
	w = shot(fixed(20, 0))
	w.Bodies[0].Body.Frame.Turn = 2
	w.Bodies[0].Body.Parts[0].Mask = 0
	isStep(t, w, counts{})
}

// TestP25_3Moved: they go on whatever they meet, a Bullet too; wild ones stay.
func TestP25_3Moved(t *testing.T) {
	w := weightless(moved(0, 0, v(6400, 0)), fixed(20, 0), moved(0, 9, v(0, none)), moved(5, 5, v(0, -64)))
	w.Bodies[0].Body.Bullet = true
	w.Bodies[0].Body.Spin, w.Bodies[0].Body.Force, w.Bodies[0].Body.Torque, w.Bodies[0].Body.Damp = 1, v(9, 9), 9, 9
	next, told := one(t, w)
	isTold(t, told)
	want, _ := body.Go(w.Bodies[0].Body, w.Settings.Step)
	want.Force, want.Torque = v(0, 0), 0
	if !sameBody(next.Bodies[0].Body, want) || want.Frame.At != v(100, 0) {
		t.Errorf("it is %v, not %v", next.Bodies[0].Body, want)
	}
	if b := next.Bodies[2].Body; b.Frame.At != v(0, 9) {
		t.Errorf("the wild one is %v", b)
	}
	if b := next.Bodies[3].Body; b.Frame.At != v(5, 4) {
		t.Errorf("the last one is %v", b)
	}
}

// TestP25_3MovedWild: what is not Free can go wild too, and is told.
func TestP25_3MovedWild(t *testing.T) {
	w := weightless(free(0, 0), moved(9, 0, v(math.MaxFloat64, 0)))
	w.Bodies[1].Body.Frame.At.X = math.MaxFloat64
	next, told := one(t, w)
	isTold(t, told, event(5, 1))
	if x := next.Bodies[1].Body.Frame.At.X; x != inf {
		t.Errorf("it goes to %v", x)
	}
	_, told = one(t, next)
	isTold(t, told)
}

// TestP25_3Cleared: forces are nought behind a step, without a minus, whatever bodies have them.
func TestP25_3Cleared(t *testing.T) {
	s := source(4)
	for range 300 {
		w := weightless(free(0, 0), fixed(0, 9), moved(9, 0, v(0, 0)), api.Slot{}, free(0, 18), free(0, 27))
		w.Bodies[5].Body.Asleep, w.Bodies[4].Body.Speed.X = true, inf
		for _, slot := range []int{0, 1, 2, 4} {
			b := &w.Bodies[slot].Body
			b.Force, b.Torque = v(s.pick(1, s.wide()), s.pick(1, s.wide())), s.pick(1, s.wide())
		}
		w.Bodies[5].Body.Force, w.Bodies[5].Body.Torque = v(minus, minus), minus
		next, _ := one(t, w)
		for slot, l := range next.Bodies {
			if b := l.Body; text(b.Force) != text(v(0, 0)) || text(b.Torque) != text(0.0) {
				t.Fatalf("the body %d has %v %v", slot, b.Force, b.Torque)
			}
		}
		if !next.Bodies[5].Body.Asleep {
			t.Fatal("a minus nought pulls")
		}
	}
}

// TestP25_3Events: they come by the parts of a step, each by its own order.
func TestP25_3Events(t *testing.T) {
	w := weightless(free(0, 0), free(1.5, 0), free(50, 0), free(60, 0), free(70, 0), free(80, 0), free(90, 0), free(100, 0))
	w.Touches = []api.Touch{touchOf(2, 3)}
	w.Settings.CalmSteps = 2
	body := func(slot int) *api.Body { return &w.Bodies[slot].Body }
	for slot := range 2 {
		// They touch, and no more: nothing moves them.
		body(slot).Asleep = true
	}
	body(1).Frame.At.X = 2
	body(0).Torque = 1
	body(2).Force, body(2).Parts[0].Density = v(math.MaxFloat64, 0), 0x1p-20
	body(3).Calm = 1
	body(4).Asleep, body(4).Torque = true, 1
	body(5).Calm = 7
	body(6).Spin, body(7).Speed.X = none, 0x1p1023
	body(7).Frame.At.X, body(7).Torque = 0x1p1023, 0
	w.Bodies[7].Body.Force, w.Bodies[7].Body.Parts[0].Density = v(0, math.MaxFloat64), 0x1p-20
	_, told := one(t, w)
	isTold(t, told,
		api.Event{Kind: 1, Pair: api.Pair{A: 0, B: 1}}, api.Event{Kind: 2, Pair: api.Pair{A: 2, B: 3}},
		event(4, 0), event(4, 1), event(4, 4),
		event(3, 3), event(3, 5),
		event(5, 2), event(5, 7))
}

// TestP25_3Sleep: what has been calm for long enough in this step falls asleep in it; what moves does not.
func TestP25_3Sleep(t *testing.T) {
	w := weightless(free(0, 0), free(9, 0))
	w.Settings.CalmSteps = 3
	w.Bodies[0].Body.Speed, w.Bodies[1].Body.Speed = v(1.0/16, 0), v(1, 0)
	for n := range 5 {
		next, told := one(t, w)
		var want []api.Event
		if n == 2 {
			want = append(want, event(3, 0))
		}
		isTold(t, told, want...)
		if b := next.Bodies[0].Body; b.Asleep != (n >= 2) || b.Frame.At.X != float64(min(n+1, 3))/1024 || b.Calm != min(n+1, 3) {
			t.Errorf("behind the step %d it is %v", n, b)
		}
		if b := next.Bodies[1].Body; b.Asleep || b.Calm != 0 {
			t.Errorf("behind the step %d the other one is %v", n, b)
		}
		w = next
	}
}

// TestP25_3LastTick: from the last Tick no step leads on.
func TestP25_3LastTick(t *testing.T) {
	w := first()
	w.Tick = mostTick - 1
	next, _ := one(t, w)
	if next.Tick != mostTick || step.Check(next) != api.OK {
		t.Errorf("the Tick is %d", next.Tick)
	}
	isRefused(t, next, api.ErrMany)
	next.Settings.Step = 0
	isRefused(t, next, api.ErrSettings)
	next = crowd(0)
	next.Tick = mostTick
	isRefused(t, next, api.ErrMany)
}

// crowd are so many bodies over one another behind a step that they have too many pairs, if they are not kept apart; ahead of it they lie so far apart.
func crowd(gap float64) api.State {
	w := api.State{Settings: usual()}
	for i := range 364 {
		b := free(gap*float64(i), 0)
		b.Body.Speed.X = -64 * gap * float64(i)
		w.Bodies = append(w.Bodies, b)
	}
	return w
}

// TestP25_3Pairs: 364 bodies in one place have 66066 pairs; the step is refused deep within, and nothing stands beside the error.
func TestP25_3Pairs(t *testing.T) {
	isRefused(t, crowd(0), api.ErrMany)
	w := crowd(4)
	next, _ := one(t, w)
	isRefused(t, next, api.ErrMany)
	got, e := step.Run(w, 2)
	if e != api.ErrMany || text(got) != text(api.State{}) {
		t.Errorf("Run tells %d", e)
	}
	got, e = step.Run(w, 1)
	if e != api.OK || !sameState(got, next) {
		t.Errorf("Run of one step tells %d", e)
	}
}

func TestP25_4Run(t *testing.T) {
	s := source(5)
	for range 20 {
		w := s.state(1 + s.below(12))
		want := copied(w)
		for n := range 12 {
			if got := run(t, w, n); !sameState(got, want) {
				t.Fatalf("Run of %d steps is another one", n)
			}
			want, _ = one(t, want)
		}
	}
}

func TestP25_4Errors(t *testing.T) {
	w := first()
	for _, n := range []int{math.MinInt, -1, 4097, math.MaxInt} {
		got, e := step.Run(w, n)
		if e != api.ErrArg || text(got) != text(api.State{}) {
			t.Errorf("Run of %d steps tells %d", n, e)
		}
	}
	w.Tick = -1
	_, e := step.Run(w, -1)
	isErr(t, e, api.ErrWorld, "Run of what may not be")
	_, e = step.Run(w, 0)
	isErr(t, e, api.ErrWorld, "Run of what may not be", 0)
	w.Tick = mostTick
	if got := run(t, w, 0); !sameState(got, w) {
		t.Error("Run of no step from the last Tick is another one")
	}
	w.Tick = mostTick - 3
	if got := run(t, w, 3); got.Tick != mostTick {
		t.Errorf("Run goes to %d", got.Tick)
	}
	for _, n := range []int{4, 4096} {
		got, e := step.Run(w, n)
		if e != api.ErrMany || text(got) != text(api.State{}) {
			t.Errorf("Run beyond the last Tick tells %d", e)
		}
	}
	if got := run(t, first(), 4096); got.Tick != 4096 {
		t.Errorf("Run goes to %d", got.Tick)
	}
}

// ofBody change each number of a body (but those of its parts) to another one.
func ofBody() []func(b *api.Body) {
	l := []func(b *api.Body){
		func(b *api.Body) { b.Kind++ },
		func(b *api.Body) { b.Damp++ },
		func(b *api.Body) { b.SpinDamp++ },
		func(b *api.Body) { b.Asleep = !b.Asleep },
		func(b *api.Body) { b.Calm-- },
		func(b *api.Body) { b.Bullet = !b.Bullet },
	}
	for i := range motion {
		l = append(l, func(b *api.Body) { set(b, i, none) })
	}
	return l
}

func ofJoint() []func(j *api.Joint) {
	l := []func(j *api.Joint){
		func(j *api.Joint) { j.Kind++ },
		func(j *api.Joint) { j.A.Slot++ },
		func(j *api.Joint) { j.A.Use++ },
		func(j *api.Joint) { j.B.Slot-- },
		func(j *api.Joint) { j.B.Use++ },
		func(j *api.Joint) { j.Motor = !j.Motor },
		func(j *api.Joint) { j.Limit = !j.Limit },
	}
	floats := func(j *api.Joint) []*float64 {
		return []*float64{&j.AtA.X, &j.AtA.Y, &j.AtB.X, &j.AtB.Y, &j.Axis.X, &j.Axis.Y, &j.Rest, &j.Ratio, &j.Speed, &j.Most, &j.Low, &j.High, &j.Push[0], &j.Push[1], &j.Push[2]}
	}
	for i := range floats(&api.Joint{}) {
		l = append(l, func(j *api.Joint) { *floats(j)[i] -= 0.5 })
	}
	return l
}

func ofPart() []func(p *api.Part) {
	return []func(p *api.Part){
		func(p *api.Part) { p.Shape.Kind++ },
		func(p *api.Part) { p.Shape.Radius++ },
		func(p *api.Part) { p.Shape.Points[1].X++ },
		func(p *api.Part) { p.Shape.Points[0].Y++ },
		func(p *api.Part) { p.Density++ },
		func(p *api.Part) { p.Friction++ },
		func(p *api.Part) { p.Bounce++ },
		func(p *api.Part) { p.Sensor = !p.Sensor },
		func(p *api.Part) { p.Layer++ },
		func(p *api.Part) { p.Mask-- },
	}
}

func ofTouch() []func(t *api.Touch) {
	return []func(t *api.Touch){
		func(t *api.Touch) { t.Pair.A-- },
		func(t *api.Touch) { t.Pair.PartA++ },
		func(t *api.Touch) { t.Pair.B++ },
		func(t *api.Touch) { t.Pair.PartB-- },
		func(t *api.Touch) { t.Sensor = !t.Sensor },
		func(t *api.Touch) { t.Normal.X++ },
		func(t *api.Touch) { t.Normal.Y++ },
		func(t *api.Touch) { t.Points[1].At.X++ },
		func(t *api.Touch) { t.Points[1].At.Y++ },
		func(t *api.Touch) { t.Points[1].Depth++ },
		func(t *api.Touch) { t.Points[0].ID++ },
		func(t *api.Touch) { t.Points[0].Push++ },
		func(t *api.Touch) { t.Points[0].Drag++ },
	}
}

func ofSettings() []func(s *api.Settings) {
	return []func(s *api.Settings){
		func(s *api.Settings) { s.Step++ },
		func(s *api.Settings) { s.Gravity.X++ },
		func(s *api.Settings) { s.Gravity.Y++ },
		func(s *api.Settings) { s.Rounds++ },
		func(s *api.Settings) { s.Slop++ },
		func(s *api.Settings) { s.Share++ },
		func(s *api.Settings) { s.Threshold++ },
		func(s *api.Settings) { s.CalmSpeed++ },
		func(s *api.Settings) { s.CalmSpin++ },
		func(s *api.Settings) { s.CalmSteps++ },
	}
}

// full is a state that has some of all; it need not be one that may be.
func full() api.State {
	w := well()
	w.Bodies[0].Body.Parts = append(w.Bodies[0].Body.Parts, part(pill(1, 2)), part(crate(1, 1)))
	w.Touches[1].Points = append(w.Touches[1].Points, api.Point{ID: 7, Push: 2, Drag: -3})
	w.Tick = 12
	return w
}

// changes are of one number of the row of full each, all of them another one.
func changes() []func(w *api.State) {
	l := []func(w *api.State){
		func(w *api.State) { w.Tick++ },
		func(w *api.State) { w.Tick = -1 },
		func(w *api.State) { w.Bodies[2].Use++ },
		func(w *api.State) { w.Bodies[4].Live = false },
		func(w *api.State) { w.Joints[1].Use++ },
		func(w *api.State) { w.Joints[1].Live = true },
	}
	for _, change := range ofSettings() {
		l = append(l, func(w *api.State) { change(&w.Settings) })
	}
	for _, change := range ofBody() {
		l = append(l, func(w *api.State) { change(&w.Bodies[3].Body) }, func(w *api.State) { change(&w.Bodies[2].Body) })
	}
	for _, change := range ofPart() {
		l = append(l, func(w *api.State) { change(&w.Bodies[0].Body.Parts[1]) })
	}
	for _, change := range ofJoint() {
		l = append(l, func(w *api.State) { change(&w.Joints[0].Joint) }, func(w *api.State) { change(&w.Joints[2].Joint) })
	}
	for _, change := range ofTouch() {
		l = append(l, func(w *api.State) { change(&w.Touches[1]) })
	}
	return l
}

// TestP25_5Number: a state of which just one number is another one is not the same, and has not the same sum.
func TestP25_5Number(t *testing.T) {
	for i, change := range changes() {
		w := full()
		change(&w)
		if step.Same(w, full()) || step.Same(full(), w) {
			t.Errorf("the change %d is not seen", i)
		}
		if step.Sum(w) == step.Sum(full()) {
			t.Errorf("the change %d is not in the sum", i)
		}
		if !step.Same(w, copied(w)) {
			t.Errorf("behind the change %d it is not the same as itself", i)
		}
	}
}

// TestP25_5Lists: lists of other lengths make other rows.
func TestP25_5Lists(t *testing.T) {
	for i, change := range []func(w *api.State){
		func(w *api.State) { w.Bodies = append(w.Bodies, api.Slot{}) },
		func(w *api.State) { w.Bodies = nil },
		func(w *api.State) { w.Joints = w.Joints[:3] },
		func(w *api.State) { w.Joints = append(w.Joints, api.JointSlot{}) },
		func(w *api.State) { w.Touches = w.Touches[:2] },
		func(w *api.State) { w.Touches = append(w.Touches, api.Touch{}) },
		func(w *api.State) { w.Touches[1].Points = w.Touches[1].Points[:1] },
		func(w *api.State) { w.Bodies[0].Body.Parts = w.Bodies[0].Body.Parts[1:] },
		func(w *api.State) { w.Bodies[1].Body.Parts[0].Shape.Points = nil },
	} {
		w := full()
		change(&w)
		if step.Same(w, full()) || step.Sum(w) == step.Sum(full()) {
			t.Errorf("the change %d is not seen", i)
		}
		if step.Sum(w) != sumOf(numbers(w)) {
			t.Errorf("behind the change %d Sum is another one", i)
		}
	}
	a, b := api.State{}, api.State{Bodies: []api.Slot{}, Joints: []api.JointSlot{}, Touches: []api.Touch{}}
	if !step.Same(a, b) || step.Sum(a) != step.Sum(b) {
		t.Error("lists without elements are not the same")
	}
}

// TestP25_5Bits: what is no number is the same as what is none, whatever its bits; a minus nought is not nought.
func TestP25_5Bits(t *testing.T) {
	w, other := full(), full()
	w.Bodies[0].Body.Speed.X, other.Bodies[0].Body.Speed.X = math.Float64frombits(0x7ff0000000000001), math.Float64frombits(0xfff8000000000123)
	if !step.Same(w, other) || step.Sum(w) != step.Sum(other) {
		t.Error("no numbers are not the same")
	}
	if want := sumOf(numbers(w)); step.Sum(w) != want {
		t.Errorf("Sum with no number is %d, not %d", step.Sum(w), want)
	}
	w.Bodies[0].Body.Speed.X, other.Bodies[0].Body.Speed.X = minus, 0
	if step.Same(w, other) || step.Sum(w) == step.Sum(other) {
		t.Error("a minus nought is the same as nought")
	}
}

func TestP25_5Sum(t *testing.T) {
	if got, want := step.Sum(full()), sumOf(numbers(full())); got != want {
		t.Errorf("Sum is %d, not %d", got, want)
	}
	s := source(6)
	for range 200 {
		w := s.strange(s.below(10))
		if step.Check(w) == api.OK {
			w, _ = one(t, w)
		}
		if got, want := step.Sum(w), sumOf(numbers(w)); got != want {
			t.Fatalf("Sum of %#v is %d, not %d", w, got, want)
		}
		if !step.Same(w, copied(w)) {
			t.Fatal("a copy is not the same")
		}
	}
	for i, change := range changes() {
		w := full()
		change(&w)
		if got, want := step.Sum(w), sumOf(numbers(w)); got != want {
			t.Errorf("behind the change %d Sum is %d, not %d", i, got, want)
		}
	}
}

func TestP25_5Twin(t *testing.T) {
	w := full()
	twin := step.Twin(w)
	if !step.Same(twin, w) || !sameState(twin, w) {
		t.Fatal("a twin is not the same")
	}
	// With room behind its lists, that a list which is appended to would fill.
	for _, change := range changes() {
		change(&twin)
	}
	if !sameState(w, full()) {
		t.Error("what a twin becomes changes what it was made of")
	}
	twin = step.Twin(w)
	for _, change := range changes() {
		change(&w)
	}
	if !sameState(twin, full()) {
		t.Error("what was twinned changes its twin")
	}
	odd := math.Float64frombits(0x7ff0000000000001)
	w = first()
	w.Bodies[0].Body.Speed.X = odd
	if math.Float64bits(step.Twin(w).Bodies[0].Body.Speed.X) != math.Float64bits(odd) {
		t.Error("a twin has other bits")
	}
	if !step.Same(step.Twin(api.State{}), api.State{}) {
		t.Error("a twin of nothing is something")
	}
}

// roomy is a list with spare room on both sides, and the whole that it lies in.
func roomy[T any](l []T, filler T) (given, whole []T) {
	whole = slices.Concat([]T{filler}, l, []T{filler, filler})
	return whole[1 : len(l)+1 : len(l)+3], whole
}

// spacious is a state all of whose lists have spare room; again tells whether all of it is as it was.
func spacious(w api.State) (given api.State, again func() bool) {
	w = copied(w)
	var wholes []func() string
	keep := func(whole func() string) { wholes = append(wholes, whole) }
	for i := range w.Bodies {
		b := &w.Bodies[i].Body
		for k := range b.Parts {
			l, whole := roomy(b.Parts[k].Shape.Points, v(91, 92))
			b.Parts[k].Shape.Points = l
			keep(func() string { return text(whole) })
		}
		l, whole := roomy(b.Parts, part(disc(77)))
		b.Parts = l
		keep(func() string { return text(whole) })
	}
	for i := range w.Touches {
		l, whole := roomy(w.Touches[i].Points, api.Point{ID: 99})
		w.Touches[i].Points = l
		keep(func() string { return text(whole) })
	}
	bodies, allBodies := roomy(w.Bodies, fixed(55, 55))
	joints, allJoints := roomy(w.Joints, joined(jointOf(api.Gear, 5, 6)))
	touches, allTouches := roomy(w.Touches, touchOf(7, 8))
	w.Bodies, w.Joints, w.Touches = bodies, joints, touches
	keep(func() string { return text(allBodies) + text(allJoints) + text(allTouches) })
	before := make([]string, len(wholes))
	for i, whole := range wholes {
		before[i] = whole()
	}
	return w, func() bool {
		for i, whole := range wholes {
			if whole() != before[i] {
				return false
			}
		}
		return true
	}
}

// spoilt is a state in which all lists are other ones, their spare room too.
func spoilt(w api.State) {
	for i := range w.Bodies[:cap(w.Bodies)] {
		s := &w.Bodies[:cap(w.Bodies)][i]
		for k := range s.Body.Parts[:cap(s.Body.Parts)] {
			p := &s.Body.Parts[:cap(s.Body.Parts)][k]
			for n := range p.Shape.Points[:cap(p.Shape.Points)] {
				p.Shape.Points[:cap(p.Shape.Points)][n] = v(none, 7)
			}
			p.Mask++
		}
		s.Use += 5
	}
	for i := range w.Joints[:cap(w.Joints)] {
		w.Joints[:cap(w.Joints)][i].Use += 5
	}
	for i := range w.Touches[:cap(w.Touches)] {
		touch := &w.Touches[:cap(w.Touches)][i]
		for n := range touch.Points[:cap(touch.Points)] {
			touch.Points[:cap(touch.Points)][n].ID += 5
		}
		touch.Pair.A += 5
	}
}

// TestP25_3Memory: what is handed in is only read, its spare room too; what is answered is new.
func TestP25_3Memory(t *testing.T) {
	s := source(7)
	for range 60 {
		w := s.state(2 + s.below(10))
		for range 3 {
			given, again := spacious(w)
			kept := copied(given)
			step.Check(given)
			step.Sum(given)
			step.Same(given, given)
			next, _ := one(t, given)
			after := run(t, given, 2)
			same := run(t, given, 0)
			twin := step.Twin(given)
			if !again() || !sameState(given, kept) {
				t.Fatal("what is handed in is changed")
			}
			want, _ := plain(given, counts{})
			for _, got := range []api.State{next, after, same, twin} {
				spoilt(got)
			}
			if !again() || !sameState(given, kept) {
				t.Fatal("what is answered shares memory with what was handed in")
			}
			next, _ = one(t, given)
			spoilt(given)
			if !sameState(next, want) {
				t.Fatal("what is answered is shared")
			}
			w = want
		}
	}
}
