package crew

import (
	"slices"

	"tumble/api"
	"tumble/step"
)

func isFree(w api.State, slot int) bool {
	return slot >= 0 && slot < len(w.Bodies) && w.Bodies[slot].Live && w.Bodies[slot].Body.Kind == api.Free
}

// mayBeAlone tells whether an island's slots are such as to leave a state with. Whether they hang together is not asked.
func mayBeAlone(w api.State, island []int) bool {
	last := -1
	for _, slot := range island {
		if slot <= last || !isFree(w, slot) {
			return false
		}
		last = slot
	}
	return len(island) > 0
}

// takeOut changes a state: what is taken out of a slot takes with it the joints that hold it, and its touches. Slots keep how often they were used, so that no handle of it comes to name another one.
func takeOut(w *api.State, isOut func(slot int) bool) {
	for slot, s := range w.Bodies {
		if isOut(slot) {
			w.Bodies[slot] = api.Slot{Use: s.Use}
		}
	}
	for slot, s := range w.Joints {
		if s.Live && (isOut(int(s.Joint.A.Slot)) || isOut(int(s.Joint.B.Slot))) {
			w.Joints[slot] = api.JointSlot{Use: s.Use}
		}
	}
	w.Touches = slices.DeleteFunc(w.Touches, func(t api.Touch) bool {
		return isOut(t.Pair.A) || isOut(t.Pair.B)
	})
}

// Alone is a state in which all free bodies but an island's are taken out, with all that held them.
func Alone(w api.State, island []int) (api.State, api.Errno) {
	if e := step.Check(w); e != api.OK {
		return api.State{}, e
	}
	if !mayBeAlone(w, island) {
		return api.State{}, api.ErrArg
	}
	var out [api.MaxBodies]bool
	for slot := range w.Bodies {
		out[slot] = isFree(w, slot)
	}
	for _, slot := range island {
		out[slot] = false
	}
	w = step.Twin(w)
	takeOut(&w, func(slot int) bool { return out[slot] })
	return w, api.OK
}
