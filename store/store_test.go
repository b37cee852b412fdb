package store_test

import (
	"iter"
	"math"
	"slices"
	"testing"

	"tumble/api"
	"tumble/store"
)

func TestExamples(t *testing.T) {
	s := fresh(t, 2)
	isPut(t, s, "a", h(0, 1), api.OK)
	isPut(t, s, "b", h(1, 1), api.OK)
	isPut(t, s, "c", api.Handle{}, api.ErrMany)

	isTake(t, s, h(0, 1), "a", api.OK)
	isGet(t, s, h(0, 1), "", api.ErrGone)
	isPut(t, s, "d", h(0, 2), api.OK)
	isGet(t, s, h(0, 1), "", api.ErrGone)
	isGet(t, s, h(0, 2), "d", api.OK)

	isSet(t, s, h(0, 2), "e", api.OK)
	isGet(t, s, h(0, 2), "e", api.OK)
	isSet(t, s, h(0, 1), "f", api.ErrGone)
	if n := s.Len(); n != 2 {
		t.Errorf("Len is %d", n)
	}
	isAt(t, s, 0, h(0, 2), true)
	isAt(t, s, 2, api.Handle{}, false)
	isAt(t, s, -1, api.Handle{}, false)
	isSlots(t, s, []uint32{2, 1}, []bool{true, true})
	isAll(t, s, entry{h(0, 2), "e"}, entry{h(1, 1), "b"})

	isNewErr(t, 0, api.ErrArg)
	isNewErr(t, 16385, api.ErrArg)
	isOpenErr(t, 1, []uint32{1, 1}, []bool{true, true}, []string{"x", "y"}, api.ErrSlot)
	isOpenErr(t, 2, []uint32{0}, []bool{true}, []string{"x"}, api.ErrSlot)
	s, _ = store.Open(2, []uint32{3}, []bool{false}, []string{"x"})
	isPut(t, s, "g", h(0, 4), api.OK)
	s, _ = store.Open(1, []uint32{1<<32 - 1}, []bool{false}, []string{"x"})
	isPut(t, s, "g", api.Handle{}, api.ErrMany)
}

func isNewErr(t *testing.T, most int, code api.Errno) {
	t.Helper()
	if s, e := store.New[string](most); s != nil || e != code {
		t.Fatalf("New(%d) is %p, %d, not %d", most, s, e, code)
	}
}

func isOpenErr(t *testing.T, most int, uses []uint32, live []bool, things []string, code api.Errno) {
	t.Helper()
	if s, e := store.Open(most, uses, live, things); s != nil || e != code {
		t.Fatalf("Open(%d, %d, %d and %d long) is %p, %d, not %d", most, len(uses), len(live), len(things), s, e, code)
	}
}

func TestP17_1New(t *testing.T) {
	for _, most := range []int{math.MinInt, -api.MaxNodes, -1, 0, api.MaxNodes + 1, 1 << 20, math.MaxInt} {
		isNewErr(t, most, api.ErrArg)
	}
	for _, most := range []int{1, 2, api.MaxNodes - 1, api.MaxNodes} {
		s := fresh(t, most)
		isSlots(t, s, nil, nil)
		isAll(t, s)
		isAt(t, s, 0, api.Handle{}, false)
		isPut(t, s, "a", h(0, 1), api.OK)
	}
	a, b := fresh(t, 2), fresh(t, 2)
	isPut(t, a, "a", h(0, 1), api.OK)
	isAll(t, b)
	isPut(t, b, "b", h(0, 1), api.OK)
	isGet(t, a, h(0, 1), "a", api.OK)
}

func TestP17_1OpenErrors(t *testing.T) {
	uses, live, things := []uint32{1, 2, 3}, []bool{true, false, true}, []string{"a", "b", "c"}
	for _, most := range []int{math.MinInt, -1, 0, api.MaxNodes + 1, math.MaxInt} {
		isOpenErr(t, most, uses, live, things, api.ErrArg)
		isOpenErr(t, most, nil, nil, nil, api.ErrArg)
		isOpenErr(t, most, uses, live, nil, api.ErrArg) // ahead of ErrSlot
		isOpenErr(t, most, []uint32{0}, []bool{true}, []string{"a"}, api.ErrArg)
	}
	for u := range 4 {
		for l := range 4 {
			for n := range 4 {
				for most := 1; most <= 4; most++ {
					if u != l || u != n || u > most {
						isOpenErr(t, most, uses[:u], live[:l], things[:n], api.ErrSlot)
					} else if s, e := store.Open(most, uses[:u], live[:l], things[:n]); s == nil || e != api.OK {
						t.Errorf("Open(%d, %d long) is %p, %d", most, u, s, e)
					}
				}
			}
		}
	}
	for unused := range 3 {
		wrong, there := slices.Clone(uses), []bool{true, true, true}
		wrong[unused] = 0
		isOpenErr(t, 3, wrong, there, things, api.ErrSlot)
		isOpenErr(t, api.MaxNodes, wrong, there, things, api.ErrSlot)
		there[unused] = false
		if s, e := store.Open(3, wrong, there, things); s == nil || e != api.OK {
			t.Errorf("a slot without a use: Open is %p, %d", s, e)
		}
	}
}

func TestP17_1OpenLongest(t *testing.T) {
	const n = api.MaxNodes
	uses, live, things := make([]uint32, n+1), make([]bool, n+1), make([]string, n+1)
	for i := range uses {
		uses[i], live[i], things[i] = uint32(i+1), true, "a"
	}
	isOpenErr(t, n, uses, live, things, api.ErrSlot)
	isOpenErr(t, n-1, uses[:n], live[:n], things[:n], api.ErrSlot)
	s, e := store.Open(n, uses[:n], live[:n], things[:n])
	if e != api.OK || s.Len() != n {
		t.Fatal(e)
	}
	isGet(t, s, h(n-1, n), "a", api.OK)
	isAt(t, s, n, api.Handle{}, false)
	isPut(t, s, "b", api.Handle{}, api.ErrMany)
	isTake(t, s, h(n-1, n), "a", api.OK)
	isPut(t, s, "b", h(n-1, n+1), api.OK)
}

func TestP17_1Open(t *testing.T) {
	for _, none := range [][]string{nil, {}} {
		s, e := store.Open(2, nil, []bool{}, none)
		if e != api.OK {
			t.Fatal(e)
		}
		isLike(t, s, &model{most: 2})
		isPut(t, s, "a", h(0, 1), api.OK)
	}
	r := source(17)
	count := map[string]int{}
	for range 5000 {
		m := r.model()
		isLike(t, m.open(t), m)
		for _, x := range m.slots {
			switch {
			case !x.live && x.use == 0:
				count["never used"]++
			case !x.live && x.use == last:
				count["used up"]++
			case !x.live:
				count["free"]++
			case x.use == last:
				count["there for the last time"]++
			default:
				count["there"]++
			}
		}
	}
	enough(t, count, 500, "never used", "used up", "free", "there for the last time", "there")
}

// Open clears what lies in free slots: nothing of it is ever told, whatever is put there afterwards.
func TestP17_1FreeThings(t *testing.T) {
	s, e := store.Open(2, []uint32{4, 5}, []bool{false, true}, []string{"x", "y"})
	if e != api.OK {
		t.Fatal(e)
	}
	isGet(t, s, h(0, 4), "", api.ErrGone)
	isTake(t, s, h(0, 4), "", api.ErrGone)
	isSet(t, s, h(0, 4), "z", api.ErrGone)
	isAll(t, s, entry{h(1, 5), "y"})
	isPut(t, s, "", h(0, 5), api.OK)
	isAll(t, s, entry{h(0, 5), ""}, entry{h(1, 5), "y"})
}

// play goes so many steps with a store and a model alike.
func play(t *testing.T, r *source, s *store.Store[string], m *model, steps int, count map[string]int) {
	t.Helper()
	var handles []api.Handle
	for range steps {
		at, v := r.handle(m), r.thing()
		if len(handles) > 0 && r.below(2) == 0 {
			at = handles[r.below(len(handles))]
		}
		switch r.below(5) {
		case 0, 1:
			was := len(m.slots)
			want, e := m.put(v)
			isPut(t, s, v, want, e)
			if e != api.OK {
				count["no next slot"]++
			} else if handles = append(handles, want); len(m.slots) > was {
				count["a new slot"]++
			} else {
				count["a slot again"]++
			}
		case 2, 3:
			want, e := m.take(at)
			isTake(t, s, at, want, e)
			if e == api.OK {
				count["taken"]++
			} else {
				count["nothing to take"]++
			}
		case 4:
			e := m.set(at, v)
			isSet(t, s, at, v, e)
			if e == api.OK {
				count["set"]++
			} else {
				count["nothing to set"]++
			}
		}
		isLike(t, s, m, append(handles[max(0, len(handles)-20):len(handles):len(handles)], at)...)
	}
}

var played = []string{"no next slot", "a new slot", "a slot again", "taken", "nothing to take", "set", "nothing to set"}

func TestP17_2Histories(t *testing.T) {
	r := source(2)
	count := map[string]int{}
	for range 600 {
		most := 1 + r.below(9)
		play(t, &r, fresh(t, most), &model{most: most}, 60, count)
	}
	enough(t, count, 1000, played...)
}

func TestP17_2HistoriesOfOpened(t *testing.T) {
	r := source(22)
	count := map[string]int{}
	for range 1500 {
		m := r.model()
		play(t, &r, m.open(t), m, 20, count)
	}
	enough(t, count, 1000, played...)
}

func TestP17_2LeastFree(t *testing.T) {
	s := fresh(t, 6)
	for i := range uint32(5) {
		isPut(t, s, "a", h(i, 1), api.OK)
	}
	for _, i := range []uint32{3, 1, 4, 0} {
		isTake(t, s, h(i, 1), "a", api.OK)
	}
	isPut(t, s, "b", h(0, 2), api.OK)
	isPut(t, s, "b", h(1, 2), api.OK)
	isTake(t, s, h(0, 2), "b", api.OK)
	isPut(t, s, "c", h(0, 3), api.OK)
	isPut(t, s, "c", h(3, 2), api.OK)
	isPut(t, s, "c", h(4, 2), api.OK)
	isPut(t, s, "c", h(5, 1), api.OK)
	isPut(t, s, "c", api.Handle{}, api.ErrMany)
	isSlots(t, s, []uint32{3, 2, 1, 2, 2, 1}, []bool{true, true, true, true, true, true})
}

func TestP17_2LastUse(t *testing.T) {
	s, e := store.Open(3, []uint32{last, last - 1}, []bool{false, false}, []string{"", ""})
	if e != api.OK {
		t.Fatal(e)
	}
	isPut(t, s, "a", h(1, last), api.OK)
	isGet(t, s, h(1, last), "a", api.OK)
	isSet(t, s, h(1, last), "b", api.OK)
	isTake(t, s, h(1, last), "b", api.OK)
	isGet(t, s, h(1, last), "", api.ErrGone)
	isPut(t, s, "c", h(2, 1), api.OK)
	isPut(t, s, "d", api.Handle{}, api.ErrMany)
	isSlots(t, s, []uint32{last, last, 1}, []bool{false, false, true})
	isTake(t, s, h(2, 1), "c", api.OK)
	isPut(t, s, "d", h(2, 2), api.OK)
	isAll(t, s, entry{h(2, 2), "d"})
}

// With ErrMany nothing has changed, and a slot that is freed afterwards is found.
func TestP17_2Many(t *testing.T) {
	s := fresh(t, api.MaxNodes)
	for i := range uint32(api.MaxNodes) {
		isPut(t, s, "a", h(i, 1), api.OK)
	}
	for range 3 {
		isPut(t, s, "b", api.Handle{}, api.ErrMany)
	}
	if s.Len() != api.MaxNodes {
		t.Errorf("Len is %d", s.Len())
	}
	isAt(t, s, api.MaxNodes-1, h(api.MaxNodes-1, 1), true)
	isAt(t, s, api.MaxNodes, api.Handle{}, false)
	for _, i := range []uint32{api.MaxNodes - 1, 0, 77} {
		isTake(t, s, h(i, 1), "a", api.OK)
	}
	for _, i := range []uint32{0, 77, api.MaxNodes - 1} {
		isPut(t, s, "c", h(i, 2), api.OK)
	}
	isPut(t, s, "b", api.Handle{}, api.ErrMany)
}

func TestP17_3GetSet(t *testing.T) {
	s := fresh(t, 3)
	isPut(t, s, "a", h(0, 1), api.OK)
	isPut(t, s, "b", h(1, 1), api.OK)
	isSet(t, s, h(1, 1), "", api.OK)
	isGet(t, s, h(1, 1), "", api.OK)
	isSet(t, s, h(1, 1), "c", api.OK)
	isGet(t, s, h(1, 1), "c", api.OK)
	isGet(t, s, h(0, 1), "a", api.OK)
	isSlots(t, s, []uint32{1, 1}, []bool{true, true})
	wrong := []api.Handle{{}, h(0, 0), h(0, 2), h(0, last), h(1, 0), h(1, 2), h(2, 0), h(2, 1), h(3, 1), h(1<<16, 1), h(1<<31, 1), h(last, 1), h(last, last), h(last-1, 1)}
	for _, at := range wrong {
		isGet(t, s, at, "", api.ErrGone)
		isSet(t, s, at, "d", api.ErrGone)
		isTake(t, s, at, "", api.ErrGone)
		isAll(t, s, entry{h(0, 1), "a"}, entry{h(1, 1), "c"})
	}
	isTake(t, s, h(1, 1), "c", api.OK)
	isTake(t, s, h(1, 1), "", api.ErrGone)
	isSet(t, s, h(1, 1), "d", api.ErrGone)
	isAll(t, s, entry{h(0, 1), "a"})
}

func TestP17_4AllAsCalled(t *testing.T) {
	s := fresh(t, 4)
	for i, v := range []string{"a", "b", "c"} {
		isPut(t, s, v, h(uint32(i), 1), api.OK)
	}
	was := []entry{{h(0, 1), "a"}, {h(1, 1), "b"}, {h(2, 1), "c"}}
	all := s.All()
	for range 2 {
		var got []entry
		for at, v := range all {
			got = append(got, entry{at, v})
			if _, e := s.Take(at); e == api.OK {
				s.Put("x")
			}
			s.Put("y")
			for _, e := range entries(s) {
				isSet(t, s, e.at, "z", api.OK)
			}
		}
		if !slices.Equal(got, was) {
			t.Fatalf("All goes through %v, not %v", got, was)
		}
	}
	isAll(t, s, entry{h(0, 2), "z"}, entry{h(1, 2), "z"}, entry{h(2, 2), "z"}, entry{h(3, 1), "z"})
}

func TestP17_4AllLeft(t *testing.T) {
	s := fresh(t, 4)
	for i, v := range []string{"a", "b", "c"} {
		isPut(t, s, v, h(uint32(i), 1), api.OK)
	}
	all := s.All()
	for steps := 1; steps <= 3; steps++ {
		n := 0
		all(func(at api.Handle, v string) bool {
			n++
			if at != h(uint32(n-1), 1) || v != string(rune('a'+n-1)) {
				t.Errorf("the step %d is %v, %q", n, at, v)
			}
			return n < steps
		})
		if n != steps {
			t.Errorf("left at the step %d, gone on to %d", steps, n)
		}
	}
	next, stop := iter.Pull2(all)
	next()
	if at, v, is := next(); at != h(1, 1) || v != "b" || !is {
		t.Errorf("the second one is %v, %q, %v", at, v, is)
	}
	stop()
	for at := range all { // one within the other
		n := 0
		for range all {
			n++
		}
		if n != 3 {
			t.Errorf("%d steps within that of %v", n, at)
		}
	}
}

// A store that is changed after the call, with no step gone yet, has no say in what is gone through.
func TestP17_4AllBefore(t *testing.T) {
	s := fresh(t, 2)
	empty := s.All()
	isPut(t, s, "a", h(0, 1), api.OK)
	full := s.All()
	isSet(t, s, h(0, 1), "b", api.OK)
	isTake(t, s, h(0, 1), "b", api.OK)
	for at := range empty {
		t.Errorf("%v was not there", at)
	}
	n := 0
	for at, v := range full {
		n++
		if at != h(0, 1) || v != "a" {
			t.Errorf("%v, %q was not there", at, v)
		}
	}
	if n != 1 {
		t.Errorf("%d steps", n)
	}
}

func TestP17_4At(t *testing.T) {
	s, e := store.Open(5, []uint32{3, 4, 0, last}, []bool{false, true, false, true}, []string{"", "a", "", "b"})
	if e != api.OK {
		t.Fatal(e)
	}
	isAt(t, s, 1, h(1, 4), true)
	isAt(t, s, 3, h(3, last), true)
	for _, i := range []int{math.MinInt, -1 << 32, 1 - 1<<32, -1, 0, 2, 4, 5, 1<<32 + 1, 1 << 62, math.MaxInt} {
		isAt(t, s, i, api.Handle{}, false)
	}
}

func TestP17_4Len(t *testing.T) {
	s, e := store.Open(5, []uint32{3, 4, 0, last}, []bool{false, true, false, true}, []string{"", "a", "", "b"})
	if e != api.OK || s.Len() != 2 {
		t.Fatal(e, s.Len())
	}
	for i, want := range []int{3, 4, 5, 5} {
		s.Put("c")
		if n := s.Len(); n != want {
			t.Errorf("Len is %d after %d more", n, i+1)
		}
	}
}

// isNone holds a store to what is told of one that is none.
func isNone(t *testing.T, s *store.Store[string]) {
	t.Helper()
	isPut(t, s, "a", api.Handle{}, api.ErrNil)
	for _, at := range []api.Handle{{}, h(0, 1), h(last, last)} {
		isTake(t, s, at, "", api.ErrNil)
		isGet(t, s, at, "", api.ErrNil)
		isSet(t, s, at, "a", api.ErrNil)
	}
	if s.All() == nil {
		t.Fatal("All is nil")
	}
	isAll(t, s)
	for _, i := range []int{-1, 0, 1} {
		isAt(t, s, i, api.Handle{}, false)
	}
	isSlots(t, s, nil, nil)
}

func TestP17_2None(t *testing.T) {
	isNone(t, nil)
	isNone(t, &store.Store[string]{})
	isNone(t, new(store.Store[string]))
	s := fresh(t, 2)
	isPut(t, s, "a", h(0, 1), api.OK)
	other := *s // made by no call of the package
	isNone(t, &other)
	isLike(t, s, &model{most: 2, slots: []slot{{1, true, "a"}}})
}

// W9: a handle names what was put there until it is taken, and nothing from then on.
func TestP17_5Handles(t *testing.T) {
	r := source(5)
	for range 300 {
		most := 1 + r.below(5)
		s := fresh(t, most)
		now := map[api.Handle]string{} // what each handle that was ever answered names
		gone := map[api.Handle]int{}
		var handles []api.Handle
		for range 60 {
			if at, e := s.Put(r.thing()); e == api.OK {
				if slices.Contains(handles, at) {
					t.Fatalf("%v is answered again", at)
				}
				handles = append(handles, at)
				now[at], _ = s.Get(at)
			}
			at := handles[r.below(len(handles))]
			if _, is := gone[at]; !is && r.below(2) == 0 {
				v := r.thing()
				isSet(t, s, at, v, api.OK)
				now[at] = v
			} else if !is {
				isTake(t, s, at, now[at], api.OK)
				gone[at] = 1
			}
			for _, at := range handles {
				if _, is := gone[at]; is {
					isGet(t, s, at, "", api.ErrGone)
				} else {
					isGet(t, s, at, now[at], api.OK)
				}
			}
		}
	}
}

func TestP17_5FreedSlot(t *testing.T) {
	for n := 1; n <= 6; n++ {
		for taken := range uint32(n) {
			s := fresh(t, 6)
			for i := range uint32(n) {
				isPut(t, s, "a", h(i, 1), api.OK)
			}
			for use := uint32(1); use < 5; use++ {
				isTake(t, s, h(taken, use), "a", api.OK)
				isPut(t, s, "a", h(taken, use+1), api.OK)
				isGet(t, s, h(taken, use), "", api.ErrGone)
			}
		}
	}
}

// again is the store that Open makes of what another one tells.
func again(t *testing.T, s *store.Store[string], most int) *store.Store[string] {
	t.Helper()
	uses, live := s.Slots()
	things := make([]string, len(uses))
	for at, v := range s.All() {
		things[at.Slot] = v
	}
	o, e := store.Open(most, uses, live, things)
	if e != api.OK {
		t.Fatalf("Open of %v, %v tells %d", uses, live, e)
	}
	return o
}

func TestP17_6OpenAgain(t *testing.T) {
	r := source(6)
	count, ignored := map[string]int{}, map[string]int{}
	for range 600 {
		m := r.model()
		s := m.open(t)
		play(t, &r, s, m, r.below(20), ignored)
		o := again(t, s, m.most)
		isLike(t, o, m)
		twin := &model{most: m.most, slots: slices.Clone(m.slots)}
		seed := r
		play(t, &r, s, m, 20, count)
		play(t, &seed, o, twin, 20, count)
		if !slices.Equal(entries(s), entries(o)) || !slices.Equal(m.slots, twin.slots) {
			t.Fatalf("two stores go apart: %v and %v", entries(s), entries(o))
		}
	}
	enough(t, count, 500, played...)
}

// Things of other types are kept as assignment copies them.
func TestP17_2OtherTypes(t *testing.T) {
	bodies, _ := store.New[api.Body](2)
	parts := []api.Part{{Density: 1}}
	at, e := bodies.Put(api.Body{Calm: 3, Parts: parts})
	if e != api.OK {
		t.Fatal(e)
	}
	parts[0].Density = 2
	if b, e := bodies.Get(at); e != api.OK || b.Calm != 3 || b.Parts[0].Density != 2 {
		t.Errorf("the body is %v, %d", b, e)
	}
	if b, e := bodies.Get(h(1, 1)); e != api.ErrGone || b.Calm != 0 || b.Parts != nil {
		t.Errorf("no body is %v, %d", b, e)
	}

	nothing, _ := store.New[struct{}](2)
	for i := range uint32(2) {
		if at, e := nothing.Put(struct{}{}); at != h(i, 1) || e != api.OK {
			t.Errorf("Put is %v, %d", at, e)
		}
	}
	if _, e := nothing.Put(struct{}{}); e != api.ErrMany || nothing.Len() != 2 {
		t.Errorf("Put tells %d", e)
	}

	arrays, _ := store.Open(2, []uint32{1}, []bool{true}, [][2]int{{1, 2}})
	got, _ := arrays.Get(h(0, 1))
	got[0] = 9
	if now, e := arrays.Get(h(0, 1)); now != [2]int{1, 2} || e != api.OK {
		t.Errorf("the array is %v, %d", now, e)
	}
	for _, v := range arrays.All() {
		v[1] = 9
	}
	if v, e := arrays.Take(h(0, 1)); v != [2]int{1, 2} || e != api.OK {
		t.Errorf("the array was %v, %d", v, e)
	}

	anything, _ := store.New[any](1)
	anything.Put(nil)
	if v, e := anything.Get(h(0, 1)); v != nil || e != api.OK {
		t.Errorf("nil is %v, %d", v, e)
	}
	calls, _ := store.New[func() int](1)
	calls.Put(func() int { return 7 })
	if _, all := through(calls); len(all) != 1 || all[0]() != 7 {
		t.Errorf("%d functions", len(all))
	}
}

// What is handed in is not changed and not kept, its spare room neither.
func TestP17_1Memory(t *testing.T) {
	uses, live, things := make([]uint32, 2, 9), make([]bool, 2, 9), make([]string, 2, 9)
	copy(uses, []uint32{3, 4})
	copy(live, []bool{false, true})
	copy(things, []string{"x", "y"})
	s, e := store.Open(4, uses, live, things)
	if e != api.OK {
		t.Fatal(e)
	}
	for _, want := range []api.Handle{h(0, 4), h(2, 1), h(3, 1)} {
		isPut(t, s, "z", want, api.OK)
	}
	isTake(t, s, h(1, 4), "y", api.OK)
	if !slices.Equal(uses[:9], []uint32{3, 4, 0, 0, 0, 0, 0, 0, 0}) || !slices.Equal(live[:9], []bool{false, true, false, false, false, false, false, false, false}) ||
		!slices.Equal(things[:9], []string{"x", "y", "", "", "", "", "", "", ""}) {
		t.Errorf("changed to %v, %v, %q", uses[:9], live[:9], things[:9])
	}
	for i := range 9 {
		uses[:9][i], live[:9][i], things[:9][i] = 77, false, "w"
	}
	isLike(t, s, &model{4, []slot{{4, true, "z"}, {4, false, ""}, {1, true, "z"}, {1, true, "z"}}})
}

func TestP17_4Memory(t *testing.T) {
	s := fresh(t, 8)
	want := &model{most: 8}
	for range 3 {
		s.Put("a")
		want.put("a")
	}
	for range 2 {
		uses, live := s.Slots()
		uses, live = uses[:cap(uses)], live[:cap(live)]
		for i := range uses {
			uses[i] = 9
		}
		for i := range live {
			live[i] = false
		}
		isLike(t, s, want)
	}
	a, b := s.Slots()
	s.Take(h(1, 1))
	s.Put("b")
	s.Take(h(0, 1))
	if !slices.Equal(a, []uint32{1, 1, 1}) || !slices.Equal(b, []bool{true, true, true}) {
		t.Errorf("Slots changed to %v, %v", a, b)
	}
}
