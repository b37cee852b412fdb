package stride_test

import (
	"slices"
	"sync"
	"testing"

	"tumble/api"
	"tumble/step"
	"tumble/stride"
)

func ball(kind uint8, x, y float64) api.Slot {
	part := api.Part{Shape: api.Shape{Kind: api.Circle, Radius: 1, Points: []api.Vec{{}}}, Density: 1, Layer: 1, Mask: 1}
	return api.Slot{Use: 1, Live: true, Body: api.Body{Kind: kind, Frame: api.Frame{At: api.Vec{X: x, Y: y}, Turn: 1}, Parts: []api.Part{part}}}
}

// four is a state of four islands, three of which are to be solved.
func four() api.State {
	w := api.State{Settings: step.Usual()}
	w.Bodies = []api.Slot{ball(api.Free, 0, 0), ball(api.Free, 1.5, 0), ball(api.Fixed, 0, -1.5), ball(api.Free, 9, 0), ball(api.Free, 18, 0), ball(api.Moved, 18, 1.5), ball(api.Free, 27, 0)}
	w.Bodies[6].Body.Asleep = true
	return w
}

// ways are orders in which islands may be acted on.
func ways() map[string]stride.Each {
	return map[string]stride.Each{
		"backward": func(n int, act func(i int) api.Errno) api.Errno {
			for i := n - 1; i >= 0; i-- {
				if e := act(i); e != api.OK {
					return e
				}
			}
			return api.OK
		},
		"together": func(n int, act func(i int) api.Errno) api.Errno {
			var all sync.WaitGroup
			for i := range n {
				all.Add(1)
				go func() {
					defer all.Done()
					act(i)
				}()
			}
			all.Wait()
			return api.OK
		},
	}
}

// TestP25_3Ways: in whatever order the islands are acted on, the step is the same.
func TestP25_3Ways(t *testing.T) {
	for name, each := range ways() {
		w := four()
		for range 40 {
			want, events, e := step.One(w)
			got, told, refused := stride.Step(w, each)
			if e != api.OK || refused != api.OK || !step.Same(got, want) || !slices.Equal(told, events) {
				t.Fatalf("%s: Step tells %d, %v, step.One %d, %v", name, refused, told, e, events)
			}
			w = want
		}
	}
}

// TestP25_3Each: it is asked once, of the islands that are awake.
func TestP25_3Each(t *testing.T) {
	var asked []int
	_, _, e := stride.Step(four(), func(n int, act func(i int) api.Errno) api.Errno {
		asked = append(asked, n)
		return ways()["backward"](n, act)
	})
	if e != api.OK || !slices.Equal(asked, []int{3}) {
		t.Errorf("it is asked of %v, and tells %d", asked, e)
	}
}

// TestP25_3Refused: what refuses one island refuses the step, and what there is no step of is not begun.
func TestP25_3Refused(t *testing.T) {
	refuse := func(int, func(i int) api.Errno) api.Errno { return api.ErrRow }
	next, told, e := stride.Step(four(), refuse)
	if e != api.ErrRow || next.Bodies != nil || told != nil {
		t.Errorf("Step tells %d", e)
	}
	w := four()
	w.Tick = 1 << 53
	next, told, e = stride.Step(w, refuse)
	if e != api.ErrMany || next.Bodies != nil || told != nil {
		t.Errorf("Step of the last Tick tells %d", e)
	}
	// 364 bodies in one place have more pairs than there may be.
	w.Tick, w.Bodies = 0, slices.Repeat([]api.Slot{ball(api.Free, 0, 0)}, 364)
	if _, _, e = stride.Step(w, refuse); e != api.ErrMany {
		t.Errorf("Step of a crowd tells %d", e)
	}
}
