package store_test

import (
	"slices"
	"testing"

	"tumble/api"
	"tumble/store"
)

const last = 1<<32 - 1 // the Use after which a slot is not used again

func h(slot, use uint32) api.Handle { return api.Handle{Slot: slot, Use: use} }

// slot and model are the oracle: the chapter's words, gone through one by one.
type slot struct {
	use   uint32
	live  bool
	thing string
}

type model struct {
	most  int
	slots []slot
}

// next is the number of the next slot; below 0, if there is none.
func (m *model) next() int {
	for i, s := range m.slots {
		if !s.live && s.use < last {
			return i
		}
	}
	if len(m.slots) < m.most {
		return len(m.slots)
	}
	return -1
}

func (m *model) put(v string) (api.Handle, api.Errno) {
	i := m.next()
	if i < 0 {
		return api.Handle{}, api.ErrMany
	}
	if i == len(m.slots) {
		m.slots = append(m.slots, slot{})
	}
	m.slots[i] = slot{m.slots[i].use + 1, true, v}
	return h(uint32(i), m.slots[i].use), api.OK
}

// named is what a handle names; nil, if nothing.
func (m *model) named(at api.Handle) *slot {
	for i := range m.slots {
		if s := &m.slots[i]; uint32(i) == at.Slot && s.live && s.use == at.Use {
			return s
		}
	}
	return nil
}

func (m *model) take(at api.Handle) (string, api.Errno) {
	s := m.named(at)
	if s == nil {
		return "", api.ErrGone
	}
	v := s.thing
	s.live, s.thing = false, ""
	return v, api.OK
}

func (m *model) get(at api.Handle) (string, api.Errno) {
	s := m.named(at)
	if s == nil {
		return "", api.ErrGone
	}
	return s.thing, api.OK
}

func (m *model) set(at api.Handle, v string) api.Errno {
	s := m.named(at)
	if s == nil {
		return api.ErrGone
	}
	s.thing = v
	return api.OK
}

// entry is one step of All.
type entry struct {
	at    api.Handle
	thing string
}

func (m *model) all() []entry {
	var l []entry
	for i, s := range m.slots {
		if s.live {
			l = append(l, entry{h(uint32(i), s.use), s.thing})
		}
	}
	return l
}

// lists are a model's slots as Open takes them; what is told of a free slot's thing is something, to count for nothing.
func (m *model) lists() ([]uint32, []bool, []string) {
	var uses []uint32
	var live []bool
	var things []string
	for _, s := range m.slots {
		if !s.live {
			s.thing = "counts for nothing"
		}
		uses, live, things = append(uses, s.use), append(live, s.live), append(things, s.thing)
	}
	return uses, live, things
}

func (m *model) open(t *testing.T) *store.Store[string] {
	t.Helper()
	uses, live, things := m.lists()
	s, e := store.Open(m.most, uses, live, things)
	if e != api.OK {
		t.Fatalf("Open(%d, %v, %v, ..) tells %d", m.most, uses, live, e)
	}
	return s
}

func through[T any](s *store.Store[T]) ([]api.Handle, []T) {
	var at []api.Handle
	var things []T
	for k, v := range s.All() {
		at, things = append(at, k), append(things, v)
	}
	return at, things
}

func entries(s *store.Store[string]) []entry {
	var l []entry
	for at, thing := range s.All() {
		l = append(l, entry{at, thing})
	}
	return l
}

func fresh(t *testing.T, most int) *store.Store[string] {
	t.Helper()
	s, e := store.New[string](most)
	if s == nil || e != api.OK {
		t.Fatalf("New(%d) is %p, %d", most, s, e)
	}
	return s
}

func isPut(t *testing.T, s *store.Store[string], v string, want api.Handle, code api.Errno) {
	t.Helper()
	if at, e := s.Put(v); at != want || e != code {
		t.Fatalf("Put(%q) is %v, %d, not %v, %d", v, at, e, want, code)
	}
}

func isTake(t *testing.T, s *store.Store[string], at api.Handle, want string, code api.Errno) {
	t.Helper()
	if v, e := s.Take(at); v != want || e != code {
		t.Fatalf("Take(%v) is %q, %d, not %q, %d", at, v, e, want, code)
	}
}

func isGet(t *testing.T, s *store.Store[string], at api.Handle, want string, code api.Errno) {
	t.Helper()
	if v, e := s.Get(at); v != want || e != code {
		t.Fatalf("Get(%v) is %q, %d, not %q, %d", at, v, e, want, code)
	}
}

func isSet(t *testing.T, s *store.Store[string], at api.Handle, v string, code api.Errno) {
	t.Helper()
	if e := s.Set(at, v); e != code {
		t.Fatalf("Set(%v, %q) tells %d, not %d", at, v, e, code)
	}
}

func isAt(t *testing.T, s *store.Store[string], slot int, want api.Handle, is bool) {
	t.Helper()
	if at, got := s.At(slot); at != want || got != is {
		t.Fatalf("At(%d) is %v, %v, not %v, %v", slot, at, got, want, is)
	}
}

func isSlots(t *testing.T, s *store.Store[string], uses []uint32, live []bool) {
	t.Helper()
	if u, l := s.Slots(); !slices.Equal(u, uses) || !slices.Equal(l, live) {
		t.Fatalf("Slots are %v, %v, not %v, %v", u, l, uses, live)
	}
}

func isAll(t *testing.T, s *store.Store[string], want ...entry) {
	t.Helper()
	if got := entries(s); !slices.Equal(got, want) {
		t.Fatalf("All goes through %v, not %v", got, want)
	}
	if n := s.Len(); n != len(want) {
		t.Fatalf("Len is %d of %v", n, want)
	}
}

// isLike holds all that a store answers, without being changed, to the model, for these handles and those of its slots.
func isLike(t *testing.T, s *store.Store[string], m *model, handles ...api.Handle) {
	t.Helper()
	isAll(t, s, m.all()...)
	uses, live, _ := m.lists()
	isSlots(t, s, uses, live)
	for i := -2; i < m.most+2; i++ {
		if i >= 0 && i < len(m.slots) && m.slots[i].live {
			isAt(t, s, i, h(uint32(i), m.slots[i].use), true)
		} else {
			isAt(t, s, i, api.Handle{}, false)
		}
	}
	for i, x := range m.slots {
		handles = append(handles, h(uint32(i), x.use-1), h(uint32(i), x.use), h(uint32(i), x.use+1))
	}
	for _, at := range handles {
		v, e := m.get(at)
		isGet(t, s, at, v, e)
	}
}

// enough tells of each kind whether it came up so often.
func enough[K comparable](t *testing.T, count map[K]int, least int, kinds ...K) {
	t.Helper()
	for _, k := range kinds {
		if count[k] < least {
			t.Errorf("too few of %v: %v", k, count)
		}
	}
}

// source makes numbers from a rule of whole numbers: the same ones in each run.
type source uint64

func (s *source) next() uint64 {
	*s = *s*6364136223846793005 + 1442695040888963407
	return uint64(*s >> 31)
}

func (s *source) below(n int) int { return int(s.next() % uint64(n)) }

// use is few, or near where slots are used up.
func (s *source) use() uint32 {
	return []uint32{0, 1, 2, 7, last - 2, last - 1, last}[s.below(7)]
}

// model is one with slots of every kind.
func (s *source) model() *model {
	m := &model{most: 1 + s.below(6)}
	for range s.below(m.most + 1) {
		x := slot{use: s.use()}
		if x.use > 0 && s.below(2) == 0 {
			x.live, x.thing = true, s.thing()
		}
		m.slots = append(m.slots, x)
	}
	return m
}

func (s *source) thing() string { return []string{"", "a", "b", "c", "d"}[s.below(5)] }

// handle is one of a slot, or near one.
func (s *source) handle(m *model) api.Handle {
	at := h(uint32(s.below(m.most+1)), s.use())
	if i := int(at.Slot); i < len(m.slots) && s.below(3) > 0 {
		at.Use = m.slots[i].use
	}
	if s.below(20) == 0 {
		at.Slot = []uint32{last, 1 << 31, 1 << 16, api.MaxNodes}[s.below(4)]
	}
	return at
}
