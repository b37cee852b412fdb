package store

import (
	"testing"

	"tumble/api"
)

// isEmpty holds the things of free slots to be zero ones: what was taken out, or counts for nothing, is not kept.
func isEmpty(t *testing.T, s *Store[*int]) {
	t.Helper()
	for slot, thing := range s.things {
		if !s.live[slot] && thing != nil {
			t.Errorf("the free slot %d keeps %p", slot, thing)
		}
	}
	for _, thing := range s.things[len(s.things):cap(s.things)] {
		if thing != nil {
			t.Errorf("beyond the slots %p is kept", thing)
		}
	}
}

func TestP17_1OpenClears(t *testing.T) {
	one := new(int)
	for bits := range 32 {
		var uses []uint32
		var live []bool
		var things []*int
		for i := range 5 {
			uses, live, things = append(uses, 1), append(live, bits>>i&1 == 1), append(things, one)
		}
		s, e := Open(9, uses, live, things)
		if e != api.OK {
			t.Fatal(e)
		}
		isEmpty(t, s)
		for i, is := range live {
			if v := s.things[i]; is != (v == one) {
				t.Errorf("the slot %d of %v has %p", i, live, v)
			}
		}
		for _, thing := range things {
			if thing != one {
				t.Errorf("a list that was handed in is %v", things)
			}
		}
	}
}

func TestP17_2TakeClears(t *testing.T) {
	s, _ := New[*int](4)
	for range 4 {
		s.Put(new(int))
	}
	for slot := range 4 {
		at, _ := s.At(slot)
		s.Take(at)
		isEmpty(t, s)
	}
	if s.Len() != 0 {
		t.Errorf("%d are there", s.Len())
	}
}
