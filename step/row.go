package step

import (
	"math"
	"slices"

	"tumble/api"
	"tumble/body"
)

// bitsOfNone are the bits that stand for whatever is no number, so that its sign and payload show nowhere.
const bitsOfNone uint64 = 0x7ff8000000000000

// What a sum begins with, and is multiplied by for each number. The factor is odd: two sums that part stay apart, while what follows is the same.
const (
	firstSum  uint64 = 14695981039346656037
	sumFactor uint64 = 1099511628211
)

// row are a state's numbers, by which states are the same or not.
type row []uint64

func (r *row) floats(l ...float64) {
	for _, f := range l {
		bits := math.Float64bits(f)
		if f != f {
			bits = bitsOfNone
		}
		*r = append(*r, bits)
	}
}

func (r *row) vecs(l ...api.Vec) {
	for _, v := range l {
		r.floats(v.X, v.Y)
	}
}

func (r *row) turn(q complex128) { r.floats(real(q), imag(q)) }

func (r *row) wholes(l ...int) {
	for _, n := range l {
		*r = append(*r, uint64(n))
	}
}

func (r *row) small(l ...uint32) {
	for _, n := range l {
		*r = append(*r, uint64(n))
	}
}

func (r *row) yes(is bool) {
	var bit uint64
	if is {
		bit = 1
	}
	*r = append(*r, bit)
}

func (r *row) settings(s api.Settings) {
	r.floats(s.Step)
	r.vecs(s.Gravity)
	r.wholes(s.Rounds)
	r.floats(s.Slop, s.Share, s.Threshold, s.CalmSpeed, s.CalmSpin)
	r.wholes(s.CalmSteps)
}

func (r *row) part(p api.Part) {
	r.small(uint32(p.Shape.Kind))
	r.floats(p.Shape.Radius)
	r.wholes(len(p.Shape.Points))
	r.vecs(p.Shape.Points...)
	r.floats(p.Density, p.Friction, p.Bounce)
	r.yes(p.Sensor)
	r.small(uint32(p.Layer), uint32(p.Mask))
}

func (r *row) body(b api.Body) {
	r.small(uint32(b.Kind))
	r.vecs(b.Frame.At)
	r.turn(b.Frame.Turn)
	r.vecs(b.Speed)
	r.floats(b.Spin)
	r.vecs(b.Force)
	r.floats(b.Torque, b.Damp, b.SpinDamp)
	r.wholes(len(b.Parts))
	for _, p := range b.Parts {
		r.part(p)
	}
	r.yes(b.Asleep)
	r.wholes(b.Calm)
	r.yes(b.Bullet)
}

func (r *row) joint(j api.Joint) {
	r.small(uint32(j.Kind), j.A.Slot, j.A.Use, j.B.Slot, j.B.Use)
	r.vecs(j.AtA, j.AtB, j.Axis)
	r.floats(j.Rest, j.Ratio)
	r.yes(j.Motor)
	r.floats(j.Speed, j.Most)
	r.yes(j.Limit)
	r.floats(j.Low, j.High)
	r.floats(j.Push[:]...)
}

func (r *row) touch(t api.Touch) {
	r.wholes(t.Pair.A, t.Pair.PartA, t.Pair.B, t.Pair.PartB)
	r.yes(t.Sensor)
	r.vecs(t.Normal)
	r.wholes(len(t.Points))
	for _, p := range t.Points {
		r.vecs(p.At)
		r.floats(p.Depth)
		r.small(p.ID)
		r.floats(p.Push, p.Drag)
	}
}

func rowOf(w api.State) row {
	var r row
	r.settings(w.Settings)
	r.wholes(len(w.Bodies))
	for _, s := range w.Bodies {
		r.small(s.Use)
		r.yes(s.Live)
		r.body(s.Body)
	}
	r.wholes(len(w.Joints))
	for _, s := range w.Joints {
		r.small(s.Use)
		r.yes(s.Live)
		r.joint(s.Joint)
	}
	r.wholes(len(w.Touches))
	for _, t := range w.Touches {
		r.touch(t)
	}
	r.wholes(w.Tick)
	return r
}

// isNought tells whether all numbers are 0: the row of a zero value, in which not even a minus stands.
func (r row) isNought() bool {
	return !slices.ContainsFunc(r, func(n uint64) bool { return n != 0 })
}

// Same compares two states float by float.
func Same(a, b api.State) bool { return slices.Equal(rowOf(a), rowOf(b)) }

// Sum is a number that hangs on every bit.
func Sum(w api.State) uint64 {
	sum := firstSum
	for _, n := range rowOf(w) {
		sum = (sum ^ n) * sumFactor
	}
	return sum
}

// Twin is a copy that shares no memory with what it was made of.
func Twin(w api.State) api.State {
	w.Bodies, w.Joints, w.Touches = slices.Clone(w.Bodies), slices.Clone(w.Joints), slices.Clone(w.Touches)
	for i, s := range w.Bodies {
		w.Bodies[i].Body = body.Twin(s.Body)
	}
	for i, t := range w.Touches {
		w.Touches[i].Points = slices.Clone(t.Points)
	}
	return w
}
