package step

import (
	"tumble/api"
	"tumble/body"
	"tumble/joint"
	"tumble/pairs"
	"tumble/stride"
)

// maxCalm is 64 bits wide on all machines, unlike an int.
const maxCalm int64 = 1 << 53

// isFrom tells whether a float is a number from low to high; what is no number passes no comparison.
func isFrom(low, f, high float64) bool { return low <= f && f <= high }

// isBound tells whether depths and speeds may be held to a float.
func isBound(f float64) bool { return isFrom(0, f, api.MaxReal) }

func isReal(f float64) bool { return isFrom(-api.MaxReal, f, api.MaxReal) }

// Settings tells whether settings may be.
func Settings(s api.Settings) api.Errno {
	switch {
	case !isFrom(api.MinReal, s.Step, api.MaxReal):
	case !isReal(s.Gravity.X) || !isReal(s.Gravity.Y):
	case s.Rounds < 0 || s.Rounds > api.MaxRounds:
	case !isBound(s.Slop) || !isBound(s.Threshold) || !isBound(s.CalmSpeed) || !isBound(s.CalmSpin):
	case !isFrom(0, s.Share, 1):
	case s.CalmSteps < 1 || int64(s.CalmSteps) > maxCalm:
	default:
		return api.OK
	}
	return api.ErrSettings
}

// Usual are settings that are good for most.
func Usual() api.Settings {
	return api.Settings{
		Step:      0x1p-6,
		Gravity:   api.Vec{Y: -10},
		Rounds:    8,
		Slop:      0x1p-8,
		Share:     0.25,
		Threshold: 1,
		CalmSpeed: 0x1p-4,
		CalmSpin:  0x1p-4,
		CalmSteps: 32,
	}
}

// lies tells whether a body does so in a slot.
func lies(w api.State, slot int) bool {
	return slot >= 0 && slot < len(w.Bodies) && w.Bodies[slot].Live
}

// names tells whether a handle is a body's. Its slot is held against the list's length as it is, for as an int it need not be the same everywhere.
func names(w api.State, h api.Handle) bool {
	return uint64(h.Slot) < uint64(len(w.Bodies)) && lies(w, int(h.Slot)) && w.Bodies[h.Slot].Use == h.Use
}

func hasPart(w api.State, slot, part int) bool {
	return part >= 0 && part < len(w.Bodies[slot].Body.Parts)
}

// keeping is a body's keeping error. Body's calls tell it ahead of all else; Still does little besides.
func keeping(b api.Body) api.Errno {
	_, e := body.Still(b)
	return e
}

func checkSlot(s api.Slot) api.Errno {
	if s.Live && s.Use > 0 {
		return keeping(s.Body)
	}
	var r row
	r.body(s.Body)
	if s.Live || !r.isNought() {
		return api.ErrWorld
	}
	return api.OK
}

func checkJointSlot(w api.State, s api.JointSlot) api.Errno {
	if !s.Live {
		var r row
		r.joint(s.Joint)
		if !r.isNought() {
			return api.ErrWorld
		}
		return api.OK
	}
	if s.Use == 0 {
		return api.ErrWorld
	}
	if e := joint.Check(s.Joint); e != api.OK {
		return e
	}
	if !names(w, s.Joint.A) || !names(w, s.Joint.B) {
		return api.ErrWorld
	}
	return api.OK
}

// isPair tells whether a pair is of two parts that there are.
func isPair(w api.State, p api.Pair) bool {
	return p.A < p.B && lies(w, p.A) && lies(w, p.B) && hasPart(w, p.A, p.PartA) && hasPart(w, p.B, p.PartB)
}

// checkTouches asks one by one for what pairs tells of a whole list, since here the first touch that is wrong in any way is told.
func checkTouches(w api.State) api.Errno {
	for i, t := range w.Touches {
		if _, e := pairs.Events(w.Touches[i:i+1], nil); e != api.OK {
			return e
		}
		if !isPair(w, t.Pair) || i > 0 && !pairs.Less(w.Touches[i-1].Pair, t.Pair) {
			return api.ErrWorld
		}
	}
	return api.OK
}

// Check tells whether a state may be.
func Check(w api.State) api.Errno {
	if e := Settings(w.Settings); e != api.OK {
		return e
	}
	if len(w.Bodies) > api.MaxBodies || len(w.Joints) > api.MaxJoints || len(w.Touches) > api.MaxPairs {
		return api.ErrMany
	}
	for _, s := range w.Bodies {
		if e := checkSlot(s); e != api.OK {
			return e
		}
	}
	for _, s := range w.Joints {
		if e := checkJointSlot(w, s); e != api.OK {
			return e
		}
	}
	if e := checkTouches(w); e != api.OK {
		return e
	}
	if tick := int64(w.Tick); tick < 0 || tick > stride.MaxTick {
		return api.ErrWorld
	}
	return api.OK
}
