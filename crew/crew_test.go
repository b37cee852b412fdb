package crew_test

import (
	"math"
	"slices"
	"testing"

	"tumble/api"
	"tumble/crew"
	"tumble/step"
)

func TestExamples(t *testing.T) {
	w := first()
	for _, workers := range []int{1, 3, 16} {
		isOne(t, w, workers)
	}
	for _, workers := range []int{0, 17} {
		_, _, e := crew.One(w, workers)
		isErr(t, e, api.ErrWorkers, "One", workers)
	}
	wrong := first()
	wrong.Settings.Step = 0
	_, _, e := crew.One(wrong, 0)
	isErr(t, e, api.ErrSettings, "One of what may not be")
	want, _ := one(t, w)
	for _, c := range []struct {
		workers      int
		picks, count []int
	}{{2, nil, []int{2, 1}}, {2, []int{1, 1, 1}, []int{0, 3}}, {3, []int{2}, []int{0, 1, 2}}, {4, nil, []int{1, 1, 1, 0}}} {
		got, count, e := crew.Plan(w, c.workers, c.picks)
		isErr(t, e, api.OK, "Plan", c.workers, c.picks)
		if !step.Same(got, want) || !slices.Equal(count, c.count) {
			t.Errorf("Plan by %d workers, %v, tells %v", c.workers, c.picks, count)
		}
	}
	for _, c := range []struct {
		workers, pick int
		want          api.Errno
	}{{2, 2, api.ErrPicks}, {2, -1, api.ErrPicks}, {0, 2, api.ErrWorkers}} {
		_, _, e := crew.Plan(w, c.workers, []int{c.pick})
		isErr(t, e, c.want, "Plan", c.workers, c.pick)
	}
	_, e = crew.Run(w, 4097, 0)
	isErr(t, e, api.ErrArg, "Run", 4097, 0)
	_, e = crew.Run(w, 2, 0)
	isErr(t, e, api.ErrWorkers, "Run", 2, 0)
	got, e := crew.Run(w, 0, 1)
	isErr(t, e, api.OK, "Run", 0, 1)
	if !step.Same(got, w) {
		t.Error("Run of no step is another state")
	}
	lone := isAlone(t, w, []int{1})
	if !step.Same(lone, world(api.Slot{Use: 1}, w.Bodies[1], api.Slot{Use: 1}, w.Bodies[3])) {
		t.Errorf("Alone is %v", lone)
	}
	for _, slots := range [][]int{nil, {3}} {
		_, e := crew.Alone(w, slots)
		isErr(t, e, api.ErrArg, "Alone", slots)
	}
}

// isRefused holds One, Plan and Run to an error, and to nothing beside it.
func isRefused(t *testing.T, w api.State, workers int, picks []int, want api.Errno) {
	t.Helper()
	nothing := text(api.State{})
	next, told, e := crew.One(w, workers)
	if len(picks) == 0 && (e != want || text(next) != nothing || told != nil) {
		t.Errorf("One by %d workers tells %d and %v, not %d", workers, e, told, want)
	}
	next, solved, e := crew.Plan(w, workers, picks)
	if e != want || text(next) != nothing || solved != nil {
		t.Errorf("Plan by %d workers, %v, tells %d and %v, not %d", workers, picks, e, solved, want)
	}
	next, e = crew.Run(w, 1, workers)
	if len(picks) == 0 && (e != want || text(next) != nothing) {
		t.Errorf("Run by %d workers tells %d, not %d", workers, e, want)
	}
}

var wrongWorkers = []int{math.MinInt, -1, 0, 17, math.MaxInt}

// last is a state of the last Tick: no step leads on from it.
func last() api.State {
	w := first()
	w.Tick = mostTick
	return w
}

func TestP26_1One(t *testing.T) {
	s := source(1)
	for range 400 {
		isOne(t, s.state(t, s.below(14)), s.workers())
	}
	for workers := 1; workers <= 16; workers++ {
		isOne(t, s.state(t, 24), workers)
		isOne(t, world(), workers)
		isOne(t, world(fixed(0, 0), api.Slot{}), workers)
		isOne(t, world(asleep(free(0, 0))), workers)
	}
}

// TestP26_1Many: as many islands as there can be, and one of as many bodies.
func TestP26_1Many(t *testing.T) {
	w := api.State{Settings: step.Usual()}
	for i := range 1024 {
		w.Bodies = append(w.Bodies, free(float64(4*i), 0))
	}
	isOne(t, w, 16)
	for i := range 1023 {
		w.Joints = append(w.Joints, rod(i, i+1))
	}
	w.Settings.Rounds = 1
	isOne(t, w, 3)
}

// TestP26_1Deep: where step tells no events of touches, none are told here, whichever island has the touch for which it does not.
func TestP26_1Deep(t *testing.T) {
	for workers := 1; workers <= 4; workers++ {
		w := deep()
		isOne(t, w, workers)
		_, told, _ := crew.One(w, workers)
		if len(told) > 0 {
			t.Errorf("told is %v", told)
		}
		got, e := crew.Run(w, 2, workers)
		if e != api.ErrArg || text(got) != text(api.State{}) {
			t.Errorf("Run of 2 steps tells %d", e)
		}
	}
}

// TestP26_1Errors: first what step.Check tells, then workers, then what else a step refuses.
func TestP26_1Errors(t *testing.T) {
	wrong := last()
	wrong.Bodies[2].Body.Damp = -1
	for _, workers := range append(wrongWorkers, 1, 16) {
		isRefused(t, wrong, workers, nil, api.ErrReal)
	}
	for _, workers := range wrongWorkers {
		for _, w := range []api.State{first(), last(), crowd(), deep(), world()} {
			isRefused(t, w, workers, nil, api.ErrWorkers)
		}
	}
	for _, workers := range []int{1, 2, 16} {
		isRefused(t, last(), workers, nil, api.ErrMany)
		isRefused(t, crowd(), workers, nil, api.ErrMany)
	}
}

// counted says once more how many islands each worker is to solve.
func counted(n, workers int, picks []int) []int {
	l := make([]int, workers)
	for i := range n {
		worker := i % workers
		if i < len(picks) {
			worker = picks[i]
		}
		l[worker]++
	}
	return l
}

// isPlan holds Plan to what a step answers, and to its counts.
func isPlan(t *testing.T, w api.State, workers int, picks []int) []int {
	t.Helper()
	want, _ := one(t, w)
	_, solved := found(t, w)
	got, count, e := crew.Plan(w, workers, picks)
	isErr(t, e, api.OK, "Plan", workers, picks)
	if !step.Same(got, want) {
		t.Fatalf("Plan by %d workers, %v, is another state", workers, picks)
	}
	if !slices.Equal(count, counted(solved, workers, picks)) {
		t.Fatalf("Plan by %d workers, %v, tells %v of %d islands", workers, picks, count, solved)
	}
	return count
}

func TestP26_2Plan(t *testing.T) {
	s, seen := source(2), map[string]int{}
	for range 500 {
		w, workers := s.state(t, s.below(14)), s.workers()
		islands, solved := found(t, w)
		picks := s.picks(s.below(2*len(islands)+2), workers)
		isPlan(t, w, workers, picks)
		switch {
		case len(picks) > solved:
			seen["more picks"]++
		case len(picks) < solved:
			seen["fewer picks"]++
		}
		if solved < len(islands) {
			seen["some asleep"]++
		}
		if workers > solved {
			seen["idle workers"]++
		}
	}
	enough(t, seen, 40, "more picks", "fewer picks", "some asleep", "idle workers")
}

// TestP26_2Numbers: islands that sleep have no number; those that wake in the step have one.
func TestP26_2Numbers(t *testing.T) {
	w := world(asleep(free(0, 0)), free(10, 0), asleep(free(20, 0)), asleep(free(30, 0)), asleep(free(31, 0)), free(40, 0), asleep(free(41, 0)))
	w.Bodies[3].Body.Torque = 1
	for _, c := range []struct {
		workers      int
		picks, count []int
	}{
		{4, []int{0, 1, 3}, []int{1, 1, 0, 1}},
		{4, nil, []int{1, 1, 1, 0}},
		{2, []int{1}, []int{1, 2}},
		{2, []int{1, 1, 0, 1, 1, 1}, []int{1, 2}},
		{1, nil, []int{3}},
		{16, []int{15, 15, 15}, []int{0, 0, 0, 0, 0, 0, 0, 0, 0, 0, 0, 0, 0, 0, 0, 3}},
	} {
		if got := isPlan(t, w, c.workers, c.picks); !slices.Equal(got, c.count) {
			t.Errorf("Plan by %d workers, %v, tells %v, not %v", c.workers, c.picks, got, c.count)
		}
	}
	if got := isPlan(t, world(fixed(0, 0)), 3, []int{2}); !slices.Equal(got, []int{0, 0, 0}) {
		t.Errorf("Plan of no islands tells %v", got)
	}
}

func TestP26_2Errors(t *testing.T) {
	long, tooLong := make([]int, 1024), make([]int, 1025)
	wrong := last()
	wrong.Settings.Rounds = 65
	isRefused(t, wrong, 0, tooLong, api.ErrSettings)
	isRefused(t, wrong, 1, []int{1}, api.ErrSettings)
	for _, workers := range wrongWorkers {
		isRefused(t, last(), workers, tooLong, api.ErrWorkers)
		isRefused(t, first(), workers, []int{workers}, api.ErrWorkers)
	}
	tooLong[0] = 9
	isRefused(t, first(), 2, tooLong, api.ErrMany)
	isRefused(t, last(), 2, tooLong, api.ErrMany)
	isPlan(t, first(), 1, long)
	for _, workers := range []int{1, 2, 16} {
		for _, pick := range []int{math.MinInt, -1, workers, math.MaxInt} {
			for _, w := range []api.State{first(), last(), crowd(), world()} {
				isRefused(t, w, workers, []int{pick}, api.ErrPicks)
				isRefused(t, w, workers, []int{0, workers - 1, 0, 0, 0, 0, 0, pick}, api.ErrPicks)
			}
		}
		isPlan(t, first(), workers, []int{workers - 1, 0, 0, 0, 0, 0, workers - 1})
		isRefused(t, last(), workers, []int{0}, api.ErrMany)
		isRefused(t, crowd(), workers, []int{0}, api.ErrMany)
	}
	long[1023] = 2
	isRefused(t, first(), 2, long, api.ErrPicks)
}

func TestP26_3Run(t *testing.T) {
	s := source(3)
	for range 60 {
		w, n := s.state(t, s.below(14)), s.below(9)
		want, e := step.Run(w, n)
		isErr(t, e, api.OK, "step.Run", n)
		workers := s.workers()
		got, e := crew.Run(w, n, workers)
		isErr(t, e, api.OK, "Run", n, workers)
		if !step.Same(got, want) {
			t.Fatalf("Run of %d steps by %d workers is another state", n, workers)
		}
	}
	got, e := crew.Run(world(free(0, 0)), 4096, 2)
	isErr(t, e, api.OK, "Run", 4096)
	if got.Tick != 4096 {
		t.Errorf("Run goes to %d", got.Tick)
	}
}

func TestP26_3Errors(t *testing.T) {
	isRun := func(w api.State, n, workers int, want api.Errno) {
		t.Helper()
		got, e := crew.Run(w, n, workers)
		if e != want || want != api.OK && text(got) != text(api.State{}) {
			t.Errorf("Run of %d steps by %d workers tells %d, not %d", n, workers, e, want)
		}
	}
	wrong := first()
	wrong.Tick = -1
	for _, n := range []int{math.MinInt, -1, 4097, math.MaxInt} {
		for _, workers := range append(wrongWorkers, 1, 16) {
			isRun(wrong, n, workers, api.ErrWorld)
			isRun(first(), n, workers, api.ErrArg)
			isRun(last(), n, workers, api.ErrArg)
		}
	}
	for _, workers := range wrongWorkers {
		isRun(wrong, 0, workers, api.ErrWorld)
		for _, n := range []int{0, 1, 4096} {
			isRun(first(), n, workers, api.ErrWorkers)
			isRun(last(), n, workers, api.ErrWorkers)
		}
	}
	isRun(last(), 0, 1, api.OK)
	isRun(last(), 1, 1, api.ErrMany)
	near := last()
	near.Tick -= 3
	isRun(near, 3, 2, api.OK)
	isRun(near, 4, 2, api.ErrMany)
	isRun(crowd(), 0, 1, api.OK)
}

func TestP26_4Alone(t *testing.T) {
	s, seen := source(4), map[string]int{}
	for range 500 {
		w := s.state(t, 1+s.below(14))
		var slots []int
		// It need not be an island.
		for _, slot := range others(w, nil) {
			if s.once(2) {
				slots = append(slots, slot)
			}
		}
		if len(slots) == 0 {
			continue
		}
		lone := isAlone(t, w, slots)
		if want := without(w, others(w, slots)); !step.Same(lone, want) {
			t.Fatalf("Alone of %#v, %v, is %#v, not %#v", w, slots, lone, want)
		}
		isErr(t, step.Check(lone), api.OK, "Check")
		for i, j := range w.Joints {
			if j.Live && !lone.Joints[i].Live {
				seen["joints taken out"]++
			} else if j.Live {
				seen["joints kept"]++
			}
		}
		seen["touches kept"] += len(lone.Touches)
		seen["touches taken out"] += len(w.Touches) - len(lone.Touches)
	}
	enough(t, seen, 40, "joints taken out", "joints kept", "touches kept", "touches taken out")
}

// TestP26_4Slots: slots stay, with how often they were used; what is not Free stays, with what holds it to the island; nothing wakes.
func TestP26_4Slots(t *testing.T) {
	w := world(free(0, 0), asleep(free(4, 0)), api.Slot{Use: 5}, fixed(8, 0), thing(api.Moved, 12, 0, disc(1)), asleep(free(16, 0)))
	w.Bodies[0].Use, w.Tick = 9, 3
	w.Joints = []api.JointSlot{rod(1, 3), rod(0, 1), {Use: 2}, rod(4, 3), rod(5, 1), rod(0, 4)}
	w.Joints[1].Joint.A.Use, w.Joints[5].Joint.A.Use, w.Joints[1].Use = 9, 9, 6
	w.Touches = []api.Touch{touchOf(0, 1), touchOf(0, 5), touchOf(1, 3), touchOf(1, 4), touchOf(1, 5), touchOf(3, 4), touchOf(3, 5)}
	want := w
	want.Bodies = []api.Slot{{Use: 9}, w.Bodies[1], {Use: 5}, w.Bodies[3], w.Bodies[4], {Use: 1}}
	want.Joints = []api.JointSlot{rod(1, 3), {Use: 6}, {Use: 2}, rod(4, 3), {Use: 1}, {Use: 1}}
	want.Touches = []api.Touch{touchOf(1, 3), touchOf(1, 4), touchOf(3, 4)}
	if got := isAlone(t, w, []int{1}); !step.Same(got, want) {
		t.Errorf("Alone is %#v, not %#v", got, want)
	}
	if got := isAlone(t, w, []int{0, 1, 5}); !step.Same(got, w) {
		t.Errorf("Alone of all is %#v", got)
	}
}

func TestP26_4Errors(t *testing.T) {
	w := world(free(0, 0), free(4, 0), api.Slot{Use: 5}, fixed(8, 0), thing(api.Moved, 12, 0, disc(1)), free(16, 0))
	for _, slots := range [][]int{nil, {}, {-1}, {math.MinInt}, {6}, {math.MaxInt}, {2}, {3}, {4}, {0, 0}, {1, 0}, {0, 1, 1}, {0, 5, 1}, {0, 1, 2}, {0, 1, 3}, {0, 4, 5}, {0, 5, 6}, {0, -1}, make([]int, 5000)} {
		got, e := crew.Alone(w, slots)
		if e != api.ErrArg || text(got) != text(api.State{}) {
			t.Errorf("Alone of %v tells %d", slots, e)
		}
	}
	_, e := crew.Alone(world(), []int{0})
	isErr(t, e, api.ErrArg, "Alone in nothing")
	w.Touches = []api.Touch{{}}
	for _, slots := range [][]int{nil, {9}, {0}} {
		got, e := crew.Alone(w, slots)
		if e != api.ErrArg || text(got) != text(api.State{}) {
			t.Errorf("Alone of what may not be, %v, tells %d", slots, e)
		}
	}
	w.Settings = api.Settings{}
	for _, slots := range [][]int{nil, {9}, {0}} {
		_, e := crew.Alone(w, slots)
		isErr(t, e, api.ErrSettings, "Alone", slots)
	}
	isErr(t, func() api.Errno { _, e := crew.Alone(last(), []int{0}); return e }(), api.OK, "Alone at the last Tick")
}

// spare gives a list room behind it, with something in it; whole is all of it.
func spare[T any](l []T, filler T) (given, whole []T) {
	whole = slices.Concat(l, []T{filler, filler})
	return whole[:len(l)], whole
}

// spacious is a state all of whose lists have spare room; whole tells all of it.
func spacious(w api.State) (given api.State, whole func() string) {
	w = step.Twin(w)
	var lists []any
	for i := range w.Bodies {
		b := &w.Bodies[i].Body
		for k := range b.Parts {
			l, all := spare(b.Parts[k].Shape.Points, v(91, 92))
			b.Parts[k].Shape.Points, lists = l, append(lists, all)
		}
		l, all := spare(b.Parts, api.Part{Mask: 77})
		b.Parts, lists = l, append(lists, all)
	}
	for i := range w.Touches {
		l, all := spare(w.Touches[i].Points, api.Point{ID: 99})
		w.Touches[i].Points, lists = l, append(lists, all)
	}
	bodies, allBodies := spare(w.Bodies, fixed(55, 55))
	joints, allJoints := spare(w.Joints, rod(5, 6))
	touches, allTouches := spare(w.Touches, touchOf(7, 8))
	w.Bodies, w.Joints, w.Touches = bodies, joints, touches
	return w, func() string { return text(lists) + text(allBodies) + text(allJoints) + text(allTouches) }
}

// spoil changes all that a state has, its spare room too.
func spoil(w api.State) {
	for i := range w.Bodies[:cap(w.Bodies)] {
		s := &w.Bodies[:cap(w.Bodies)][i]
		for k := range s.Body.Parts[:cap(s.Body.Parts)] {
			p := &s.Body.Parts[:cap(s.Body.Parts)][k]
			for n := range p.Shape.Points[:cap(p.Shape.Points)] {
				p.Shape.Points[:cap(p.Shape.Points)][n] = v(none, 7)
			}
			p.Mask++
		}
		s.Use += 5
	}
	for i := range w.Joints[:cap(w.Joints)] {
		w.Joints[:cap(w.Joints)][i].Use += 5
	}
	for i := range w.Touches[:cap(w.Touches)] {
		touch := &w.Touches[:cap(w.Touches)][i]
		for n := range touch.Points[:cap(touch.Points)] {
			touch.Points[:cap(touch.Points)][n].ID += 5
		}
		touch.Pair.A += 5
	}
}

// TestP26_5Memory: what is handed in is only read, its spare room too; what is answered is new.
func TestP26_5Memory(t *testing.T) {
	s := source(5)
	for range 100 {
		w, workers := s.state(t, 2+s.below(10)), s.workers()
		islands, _ := found(t, w)
		if len(islands) == 0 {
			continue
		}
		picks, allPicks := spare(s.picks(3, workers), 88)
		slots, allSlots := spare(islands[s.below(len(islands))], 99)
		answers := func(w api.State) []api.State {
			l := make([]api.State, 5)
			l[0], _, _ = crew.One(w, workers)
			l[1], _, _ = crew.Plan(w, workers, picks)
			l[2], _ = crew.Run(w, 2, workers)
			l[3], _ = crew.Run(w, 0, workers)
			l[4], _ = crew.Alone(w, slots)
			return l
		}
		want := answers(w)
		given, whole := spacious(w)
		lists := func() string { return whole() + text(allPicks) + text(allSlots) }
		before := lists()
		got := answers(given)
		if lists() != before {
			t.Fatal("what is handed in is changed")
		}
		for _, l := range answers(given) {
			spoil(l)
		}
		if lists() != before {
			t.Fatal("what is answered shares memory with what was handed in")
		}
		spoil(given)
		for i := range got {
			if !step.Same(got[i], want[i]) {
				t.Fatalf("the answer %d shares memory", i)
			}
			for k := range got {
				if k != i {
					spoil(got[k])
				}
			}
			if !step.Same(got[i], want[i]) {
				t.Fatalf("the answer %d shares memory with another one", i)
			}
			got = answers(w)
		}
	}
}
