package joint_test

import (
	"math"
	"slices"
	"testing"

	"tumble/api"
	"tumble/joint"
)

// What follows says the chapter's words once more, float by float.

func less(a, b api.Vec) api.Vec { return v(a.X-b.X, a.Y-b.Y) }

func dot(a, b api.Vec) float64 { return float64(a.X*b.X) + float64(a.Y*b.Y) }

func cross(a, b api.Vec) float64 { return float64(a.X*b.Y) - float64(a.Y*b.X) }

func long(a api.Vec) float64 { return math.Sqrt(dot(a, a)) }

func applied(q complex128, a api.Vec) api.Vec {
	re, im := real(q), imag(q)
	return v(float64(re*a.X)-float64(im*a.Y), float64(im*a.X)+float64(re*a.Y))
}

func sine(a, b complex128) float64 {
	return float64(real(a)*imag(b)) - float64(imag(a)*real(b))
}

// by is the turn by the angle of half of which t is the tangent, behind another one.
func by(q complex128, t float64) complex128 {
	s := float64(t * t)
	re, im := (1-s)/(1+s), (t+t)/(1+s)
	return complex(float64(real(q)*re)-float64(imag(q)*im), float64(real(q)*im)+float64(imag(q)*re))
}

func place(f api.Frame, p api.Vec) api.Vec {
	p = applied(f.Turn, p)
	return v(f.At.X+p.X, f.At.Y+p.Y)
}

// greater is of two floats of which the first one is a number.
func greater(a, b float64) float64 {
	if b > a || b == 0 && a == 0 && !math.Signbit(b) {
		return b
	}
	return a
}

func clamped(a, low, high float64) float64 {
	switch {
	case !(a > low):
		return low
	case a > high:
		return high
	}
	return a
}

func finite(l ...float64) bool {
	for _, f := range l {
		if math.IsNaN(f) || math.IsInf(f, 0) {
			return false
		}
	}
	return true
}

func wild(b api.Body) bool {
	f := b.Frame
	return !finite(f.At.X, f.At.Y, real(f.Turn), imag(f.Turn), b.Speed.X, b.Speed.Y, b.Spin)
}

// lies are a joint's places and arms.
type lies struct {
	x, y                        api.Frame
	pa, pb, d, ra, rb, rc, w, n api.Vec
}

func lying(j api.Joint, x, y api.Body) lies {
	l := lies{x: x.Frame, y: y.Frame, pa: place(x.Frame, j.AtA), pb: place(y.Frame, j.AtB)}
	l.d, l.ra, l.rb, l.rc = less(l.pb, l.pa), less(l.pa, x.Frame.At), less(l.pb, y.Frame.At), less(l.pb, x.Frame.At)
	l.w = applied(x.Frame.Turn, j.Axis)
	l.n = v(-l.w.Y, l.w.X)
	return l
}

func (l lies) along(u, r api.Vec, bias float64) api.Row {
	return api.Row{WayA: v(-u.X, -u.Y), TurnA: -cross(r, u), WayB: u, TurnB: cross(l.rb, u), Bias: bias, Low: -inf, High: inf, Of: -1}
}

func spins(bias float64) api.Row {
	return api.Row{TurnA: -1, TurnB: 1, Bias: bias, Low: -inf, High: inf, Of: -1}
}

// heldBy is the chapter's row that is held; what tells which of its three cases it was.
func heldBy(r api.Row, low, high, c, k float64) ([]api.Row, string) {
	switch {
	case c-low < 0:
		r.Bias, r.Low, r.High = -float64(k*(c-low)), 0, inf
		return []api.Row{r}, "below"
	case c-high > 0:
		r.Bias, r.Low, r.High = -float64(k*(c-high)), -inf, 0
		return []api.Row{r}, "above"
	}
	return nil, "within"
}

func heldOrDriven(r api.Row, j api.Joint, c, k, step float64) ([]api.Row, string) {
	what := "bare"
	if j.Limit {
		var l []api.Row
		if l, what = heldBy(r, j.Low, j.High, c, k); l != nil {
			return l, what
		}
	}
	if !j.Motor {
		return nil, what
	}
	r.Bias, r.Low, r.High = j.Speed, -float64(j.Most*step), float64(j.Most*step)
	return []api.Row{r}, what + " driven"
}

// rowsOf are what Rows has to answer of things that it takes.
func rowsOf(j api.Joint, a, b int, x, y api.Body, s api.Settings) ([]api.Row, string) {
	if wild(x) || wild(y) {
		return nil, "wild"
	}
	l, k := lying(j, x, y), s.Share/s.Step
	against := func(c float64) float64 { return -float64(k * c) }
	both := []api.Row{l.along(v(1, 0), l.ra, against(l.d.X)), l.along(v(0, 1), l.ra, against(l.d.Y))}
	var rows []api.Row
	what := "bare"
	switch j.Kind {
	case api.Pin:
		rows, what = heldOrDriven(spins(0), j, sine(l.x.Turn, l.y.Turn), k, s.Step)
		rows = append(both, rows...)
	case api.Rod:
		n, u := long(l.d), v(0, 1)
		if n > 0 && finite(n) {
			u = v(l.d.X/n, l.d.Y/n)
		}
		if j.Limit {
			rows, what = heldBy(l.along(u, l.ra, 0), j.Low, j.High, n, k)
		} else {
			rows = []api.Row{l.along(u, l.ra, against(n-j.Rest))}
		}
	case api.Rail:
		rows, what = heldOrDriven(l.along(l.w, l.rc, 0), j, dot(l.d, l.w), k, s.Step)
		rows = append([]api.Row{l.along(l.n, l.rc, against(dot(l.d, l.n)))}, rows...)
	case api.Weld:
		rows = append(both, spins(against(sine(by(l.x.Turn, j.Rest), l.y.Turn))))
	case api.Gear:
		rows = []api.Row{{TurnA: 1, TurnB: j.Ratio, Low: -inf, High: inf, Of: -1}}
	}
	for i := range rows {
		rows[i].A, rows[i].B = a, b
		rows[i].Push = clamped(j.Push[i], rows[i].Low, rows[i].High)
	}
	return rows, what
}

func offOf(j api.Joint, x, y api.Body) float64 {
	if wild(x) || wild(y) {
		return 0
	}
	l := lying(j, x, y)
	n := long(l.d)
	switch j.Kind {
	case api.Pin, api.Weld:
		return n
	case api.Rod:
		if j.Limit {
			return greater(greater(0, j.Low-n), n-j.High)
		}
		return math.Abs(n - j.Rest)
	case api.Rail:
		return math.Abs(dot(l.d, l.n))
	}
	return 0
}

// mustRows are of arguments that Rows takes.
func mustRows(t *testing.T, j api.Joint, x, y api.Body, s api.Settings) []api.Row {
	t.Helper()
	l, e := joint.Rows(j, 3, 1, x, y, s)
	isErr(t, e, api.OK, "Rows", j, x, y, s)
	return l
}

func mustOff(t *testing.T, j api.Joint, x, y api.Body) float64 {
	t.Helper()
	off, e := joint.Off(j, x, y)
	isErr(t, e, api.OK, "Off", j, x, y)
	return off
}

func TestExamples(t *testing.T) {
	for i, c := range []struct {
		change func(j *api.Joint)
		want   api.Errno
	}{
		{func(j *api.Joint) {}, api.OK},
		{func(j *api.Joint) { j.Kind = 0 }, api.ErrJoint},
		{func(j *api.Joint) { j.B = j.A }, api.ErrJoint},
		{func(j *api.Joint) { j.Most = -1 }, api.ErrJoint},
		{func(j *api.Joint) { j.Axis = v(none, 0) }, api.ErrReal},
		{func(j *api.Joint) { j.Kind, j.Axis = api.Rail, v(1, 1) }, api.ErrJoint},
		{func(j *api.Joint) { j.Kind, j.Ratio = api.Gear, 0 }, api.ErrJoint},
	} {
		j := pin()
		c.change(&j)
		isErr(t, joint.Check(j), c.want, "Check", i)
	}
	x, y := ball(0, 0), ball(4, 0)
	// The signs of noughts are those of the formulas: the example tells those of the turns as numbers.
	l, e := joint.Rows(pin(), 0, 1, x, y, halves())
	if want := []api.Row{
		{A: 0, B: 1, WayA: v(-1, minus), TurnA: minus, WayB: v(1, 0), TurnB: minus, Bias: -1, Low: -inf, High: inf, Of: -1},
		{A: 0, B: 1, WayA: v(minus, -1), TurnA: -2, WayB: v(0, 1), TurnB: -1, Bias: minus, Low: -inf, High: inf, Of: -1},
	}; e != api.OK || !sameRows(l, want) {
		t.Errorf("Rows of P: %v %v", l, e)
	}
	for _, slots := range [][2]int{{1, 1}, {-1, 1}} {
		_, e = joint.Rows(pin(), slots[0], slots[1], x, y, halves())
		isErr(t, e, api.ErrArg, "Rows", slots)
	}
	fast := ball(0, 0)
	fast.Speed = v(inf, 0)
	if l, e = joint.Rows(pin(), 0, 1, fast, y, halves()); len(l) != 0 || e != api.OK {
		t.Errorf("Rows of a wild body: %v %v", l, e)
	}
	examplesOfRods(t, x, y)
	j := pin()
	j.Motor, j.Speed, j.Most = true, 3, 8
	l = mustRows(t, j, x, y, halves())
	if want := (api.Row{A: 3, B: 1, TurnA: -1, TurnB: 1, Bias: 3, Low: -4, High: 4, Of: -1}); len(l) != 3 || !sameRow(l[2], want) {
		t.Errorf("Rows of a pin with a motor: %v", l)
	}
	if off := mustOff(t, pin(), x, y); off != 1 {
		t.Errorf("Off of P: %v", off)
	}
	if a, b, e := joint.Places(pin(), x, y); a != v(2, 0) || b != v(3, 0) || e != api.OK {
		t.Errorf("Places of P: %v %v %v", a, b, e)
	}
	if j, e := joint.Keep(pin(), []api.Row{{Push: 5}, {Push: none}}); j.Push != [3]float64{5, 0, 0} || e != api.OK {
		t.Errorf("Keep of P: %v %v", j, e)
	}
}

func examplesOfRods(t *testing.T, x, y api.Body) {
	t.Helper()
	for _, c := range []struct {
		limit     bool
		low, high float64
		rows      int
		bias      float64
		from, to  float64
		off       float64
	}{
		{false, 0, 0, 1, -1, -inf, inf, 1},
		{true, 3, 5, 0, 0, 0, 0, 0},
		{true, 4.5, 5, 1, 0.5, 0, inf, 0.5},
		{true, 1, 2, 1, -2, -inf, 0, 2},
	} {
		j := plain(api.Rod)
		j.Rest, j.Limit, j.Low, j.High = 3, c.limit, c.low, c.high
		l := mustRows(t, j, x, y, halves())
		if len(l) != c.rows || c.rows == 1 && (l[0].Bias != c.bias || l[0].Low != c.from || l[0].High != c.to || l[0].WayB != v(1, 0)) {
			t.Errorf("Rows of a rod %v: %v", c, l)
		}
		if off := mustOff(t, j, x, y); off != c.off {
			t.Errorf("Off of a rod %v: %v", c, off)
		}
	}
}

func TestP19_1Kinds(t *testing.T) {
	for k := range 256 {
		j := plain(api.Pin)
		j.Kind, j.Axis, j.Ratio = uint8(k), v(1, 0), 1
		want := api.ErrJoint
		if k >= 1 && k <= 5 {
			want = api.OK
		}
		isErr(t, joint.Check(j), want, "Check", k)
	}
}

func TestP19_1Slots(t *testing.T) {
	for _, k := range kinds {
		for _, c := range []struct {
			a, b api.Handle
			want api.Errno
		}{
			{api.Handle{Slot: 7, Use: 1}, api.Handle{Slot: 7, Use: 1}, api.ErrJoint},
			{api.Handle{Slot: 7, Use: 1}, api.Handle{Slot: 7, Use: 2}, api.ErrJoint},
			{api.Handle{}, api.Handle{}, api.ErrJoint},
			{api.Handle{Slot: 1<<32 - 1}, api.Handle{Slot: 1<<32 - 1, Use: 1<<32 - 1}, api.ErrJoint},
			{api.Handle{Slot: 1<<32 - 1}, api.Handle{}, api.OK},
			{api.Handle{Slot: 8, Use: 3}, api.Handle{Slot: 7, Use: 3}, api.OK},
		} {
			j := plain(k)
			j.A, j.B = c.a, c.b
			isErr(t, joint.Check(j), c.want, "Check", j)
			if j.Rest = none; c.want == api.OK {
				c.want = api.ErrReal
			}
			isErr(t, joint.Check(j), c.want, "Check", j)
		}
	}
}

func TestP19_1Reals(t *testing.T) {
	for _, k := range kinds {
		j := plain(k)
		for i := range floats(&j) {
			for _, f := range []float64{none, inf, -inf, past, -past, most, -most} {
				j := plain(k)
				*floats(&j)[i] = f
				isErr(t, joint.Check(j), api.ErrReal, "Check", k, i, f)
				// What is wrong of the kind, and comes behind it, is not told.
				j.Most, j.Limit, j.Low, j.High, j.Rest, j.Ratio, j.Axis = -1, true, -1, -2, -1, 0, v(1, 1)
				*floats(&j)[i] = f
				isErr(t, joint.Check(j), api.ErrReal, "Check", k, i, f)
				j.B = j.A
				isErr(t, joint.Check(j), api.ErrJoint, "Check", k, i, f)
			}
		}
		j = plain(k)
		j.AtA, j.AtB = v(api.MaxReal, -api.MaxReal), v(-api.MaxReal, api.MaxReal)
		j.Rest, j.Speed, j.Most, j.Low, j.High = api.MaxReal, -api.MaxReal, api.MaxReal, api.MaxReal, -api.MaxReal
		j.Push = [3]float64{api.MaxReal, -api.MaxReal, minus}
		if k != api.Rail {
			j.Axis = v(-api.MaxReal, api.MaxReal)
		}
		j.Ratio = -api.MaxReal
		isErr(t, joint.Check(j), api.OK, "Check", j)
	}
}

func TestP19_1Rules(t *testing.T) {
	under := math.Nextafter(api.MinReal, 0)
	for i, c := range []struct {
		change func(j *api.Joint)
		wrong  []uint8 // the kinds of which this is ErrJoint
	}{
		{func(j *api.Joint) { j.Most = -1 }, kinds},
		{func(j *api.Joint) { j.Most = -tiny }, kinds},
		{func(j *api.Joint) { j.Most = minus }, nil},
		{func(j *api.Joint) { j.Most, j.Motor = 0, true }, nil},
		{func(j *api.Joint) { j.Low, j.High = 2, 1 }, nil},
		{func(j *api.Joint) { j.Low, j.High, j.Limit = 2, 1, true }, kinds},
		{func(j *api.Joint) { j.Low, j.High, j.Limit = tiny, 0, true }, kinds},
		{func(j *api.Joint) { j.Low, j.High, j.Limit = 2, 2, true }, nil},
		{func(j *api.Joint) { j.Low, j.High, j.Limit = 0, minus, true }, nil},
		{func(j *api.Joint) { j.Rest = -1 }, []uint8{api.Rod}},
		{func(j *api.Joint) { j.Rest, j.Limit = -tiny, true }, []uint8{api.Rod}},
		{func(j *api.Joint) { j.Rest = minus }, nil},
		{func(j *api.Joint) { j.Low, j.High = -1, 1 }, nil},
		{func(j *api.Joint) { j.Low, j.High, j.Limit = -tiny, 1, true }, []uint8{api.Rod}},
		{func(j *api.Joint) { j.Low, j.High, j.Limit = minus, 1, true }, nil},
		{func(j *api.Joint) { j.Axis = v(1, 1) }, []uint8{api.Rail}},
		{func(j *api.Joint) { j.Axis = v(0, 0) }, []uint8{api.Rail}},
		{func(j *api.Joint) { j.Axis = v(-0.8, 0.6) }, nil},
		{func(j *api.Joint) { j.Axis = v(0, 1+0x1p-41) }, nil},
		{func(j *api.Joint) { j.Axis = v(0, -1-0x1p-41-0x1p-52) }, []uint8{api.Rail}},
		{func(j *api.Joint) { j.Axis = v(1-0x1p-41, 0) }, nil},
		{func(j *api.Joint) { j.Axis = v(1-0x1p-41-0x1p-53, 0) }, []uint8{api.Rail}},
		{func(j *api.Joint) { j.Axis = v(0x1p-20, 1) }, nil},
		{func(j *api.Joint) { j.Axis = v(0x1p-19, 1) }, []uint8{api.Rail}},
		{func(j *api.Joint) { j.Ratio = 0 }, []uint8{api.Gear}},
		{func(j *api.Joint) { j.Ratio = minus }, []uint8{api.Gear}},
		{func(j *api.Joint) { j.Ratio = api.MinReal }, nil},
		{func(j *api.Joint) { j.Ratio = -api.MinReal }, nil},
		{func(j *api.Joint) { j.Ratio = under }, []uint8{api.Gear}},
		{func(j *api.Joint) { j.Ratio = -under }, []uint8{api.Gear}},
		{func(j *api.Joint) { j.Ratio = -2 }, nil},
	} {
		for _, k := range kinds {
			j := plain(k)
			c.change(&j)
			want := api.OK
			if slices.Contains(c.wrong, k) {
				want = api.ErrJoint
			}
			isErr(t, joint.Check(j), want, "Check", i, k)
		}
	}
}

// TestRefusedByAll: each call tells Check's error ahead of all else, and nothing beside it.
func TestRefusedByAll(t *testing.T) {
	s := source(1)
	for range 400 {
		j, want := s.joint(), api.ErrReal
		switch s.below(4) {
		case 0:
			j.Kind, want = uint8(6+s.below(250)), api.ErrJoint
		case 1:
			j.Most, want = -1, api.ErrJoint
		case 2:
			*floats(&j)[s.below(15)] = []float64{none, inf, past}[s.below(3)]
		case 3:
			j.A.Slot, want = j.B.Slot, api.ErrJoint
		}
		x, y := s.worldly(4), s.worldly(4)
		s.spoil(&x)
		if s.coin() {
			s.spoil(&y)
		}
		isErr(t, joint.Check(j), want, "Check", j)
		l, e := joint.Rows(j, -1, -1, x, y, api.Settings{})
		isErr(t, e, want, "Rows", j)
		k, e := joint.Keep(j, make([]api.Row, 4))
		isErr(t, e, want, "Keep", j)
		off, e := joint.Off(j, x, y)
		isErr(t, e, want, "Off", j)
		a, b, e := joint.Places(j, x, y)
		isErr(t, e, want, "Places", j)
		if len(l) != 0 || !sameJoint(k, api.Joint{}) || !same(off, 0) || !sameVec(a, v(0, 0)) || !sameVec(b, v(0, 0)) {
			t.Fatalf("beside an error: %v %v %v %v %v", l, k, off, a, b)
		}
	}
}

func TestP19_2Errors(t *testing.T) {
	bare, heavy := ball(0, 0), ball(0, 0)
	bare.Parts = nil           // ErrBody
	heavy.Parts[0].Density = 0 // ErrMass
	odd := ball(0, 0)          // ErrKind
	odd.Parts[0].Shape.Kind = 9
	lost := ball(0, 0)
	lost.Frame.At.X = none
	well, other := ball(0, 0), ball(4, 0)
	for i, c := range []struct {
		a, b int
		x, y api.Body
		s    api.Settings
		want api.Errno
	}{
		{0, 0, bare, bare, api.Settings{}, api.ErrArg},
		{-1, 0, bare, bare, api.Settings{}, api.ErrArg},
		{0, -1, bare, bare, api.Settings{}, api.ErrArg},
		{-1, -2, well, other, halves(), api.ErrArg},
		{leastInt, mostInt, well, other, halves(), api.ErrArg},
		{mostInt, mostInt, well, other, halves(), api.ErrArg},
		{mostInt, 0, well, other, halves(), api.OK},
		{0, 1, bare, heavy, api.Settings{}, api.ErrBody},
		{0, 1, heavy, bare, api.Settings{}, api.ErrMass},
		{0, 1, odd, bare, api.Settings{}, api.ErrKind},
		{0, 1, lost, bare, api.Settings{}, api.ErrBody},
		{0, 1, well, odd, api.Settings{}, api.ErrKind},
		{0, 1, lost, lost, api.Settings{}, api.ErrReal},
		{0, 1, well, other, api.Settings{}, api.ErrReal},
	} {
		l, e := joint.Rows(pin(), c.a, c.b, c.x, c.y, c.s)
		if e != c.want || e != api.OK && len(l) != 0 {
			t.Errorf("row %d: %v %v", i, l, e)
		}
	}
	for i, c := range []struct {
		step, share float64
		want        api.Errno
	}{
		{api.MinReal, 0, api.OK}, {api.MaxReal, 1, api.OK}, {1, minus, api.OK}, {1, tiny, api.OK},
		{math.Nextafter(api.MinReal, 0), 0, api.ErrReal}, {past, 0, api.ErrReal}, {0, 0, api.ErrReal}, {-1, 0, api.ErrReal},
		{none, 0, api.ErrReal}, {inf, 0, api.ErrReal}, {-inf, 0, api.ErrReal},
		{1, math.Nextafter(1, 2), api.ErrReal}, {1, -tiny, api.ErrReal}, {1, none, api.ErrReal}, {1, inf, api.ErrReal}, {1, -inf, api.ErrReal},
	} {
		// No other setting is asked.
		set := api.Settings{Step: c.step, Share: c.share, Gravity: v(none, inf), Rounds: -7, Slop: -1, Threshold: none, CalmSteps: -1}
		l, e := joint.Rows(pin(), 0, 1, well, other, set)
		if e != c.want || (e == api.OK) != (len(l) == 2) {
			t.Errorf("settings %d: %v %v", i, l, e)
		}
	}
}

func TestP19_2Rows(t *testing.T) {
	s, count, of := source(2), map[string]int{}, map[string]int{}
	names := []string{"", "pin ", "rod ", "rail ", "weld ", "gear "}
	for range 20000 {
		j, x, y, set := s.joint(), s.worldly(5), s.worldly(5), s.settings()
		a, b := s.below(9), 9+s.below(9)
		if s.coin() {
			a, b = b, a
		}
		want, what := rowsOf(j, a, b, x, y, set)
		got, e := joint.Rows(j, a, b, x, y, set)
		if e != api.OK || !sameRows(got, want) {
			t.Fatalf("Rows(%v, %v, %v, %v, %v, %v)\nare %v %v\nnot %v", j, a, b, x, y, set, got, e, want)
		}
		count[names[j.Kind]+what]++
		for _, r := range got {
			if !finite(r.Bias, r.TurnA, r.TurnB, r.WayB.X, r.WayB.Y) {
				of["not finite"]++
			}
			if r.Low == 0 && r.Push > 0 || r.High == 0 && r.Push < 0 || math.IsInf(r.High-r.Low, 1) && r.Low != 0 && r.High != 0 {
				of["kept"]++
			} else {
				of["at an end"]++
			}
		}
	}
	for _, k := range []string{"pin ", "rail "} {
		for _, w := range []string{"bare", "bare driven", "below", "above", "within", "within driven", "wild"} {
			enough(t, count, 30, k+w)
		}
	}
	enough(t, count, 30, "rod bare", "rod below", "rod above", "rod within", "rod wild", "weld bare", "weld wild", "gear bare", "gear wild")
	enough(t, of, 100, "not finite", "kept", "at an end")
}

// TestP19_2Ends: what lies at an end is not beyond it.
func TestP19_2Ends(t *testing.T) {
	rail, rod := plain(api.Rail), plain(api.Rod)
	for _, c := range []struct {
		name string
		j    api.Joint
		x, y api.Body
		at   float64 // what is held
		bare int     // how many rows there are without that
	}{
		{"pin", plain(api.Pin), ball(0, 0), turned(0, 0, 0.8+0.6i), 0.6, 2},
		{"pin, back", plain(api.Pin), turned(0, 0, 0.8+0.6i), ball(0, 0), -0.6, 2},
		{"rail", rail, ball(0, 0), ball(-3, 5), -3, 1},
		{"rod", rod, ball(0, 0), ball(3, 4), 5, 0},
	} {
		below, above := math.Nextafter(c.at, -inf), math.Nextafter(c.at, inf)
		for _, e := range []struct {
			low, high float64
			rows      int
			off       float64
			from, to  float64
		}{
			{c.at, c.at, 0, 0, 0, 0},
			{below, c.at, 0, 0, 0, 0},
			{c.at, above, 0, 0, 0, 0},
			{above, above, 1, c.at - above, 0, inf},
			{below, below, 1, c.at - below, -inf, 0},
			{c.at + 1, c.at + 2, 1, c.at - (c.at + 1), 0, inf},
			{c.at - 2, c.at - 1, 1, c.at - (c.at - 1), -inf, 0},
		} {
			j := c.j
			j.Limit, j.Low, j.High = true, e.low, e.high
			j.Push = [3]float64{2, 2, 2}
			if e.from != 0 {
				j.Push = [3]float64{-2, -2, -2}
			}
			l := mustRows(t, j, c.x, c.y, halves())
			if len(l) != c.bare+e.rows {
				t.Fatalf("%s from %v to %v: %v", c.name, e.low, e.high, l)
			}
			if e.rows == 0 {
				continue
			}
			if r := l[c.bare]; r.Bias != -e.off || r.Low != e.from || r.High != e.to || r.Push != j.Push[0] {
				t.Errorf("%s from %v to %v: %v", c.name, e.low, e.high, r)
			}
		}
	}
}

// TestP19_2Motor: a motor drives where nothing is held, and nothing but a pin and a rail.
func TestP19_2Motor(t *testing.T) {
	x, y := ball(0, 0), turned(4, 3, 1i)
	set := api.Settings{Step: 0.25, Share: 1}
	for _, c := range []struct {
		kind      uint8
		limit     bool
		low, high float64
		rows      int // without and with the motor
		driven    bool
	}{
		{api.Pin, false, 0, 0, 2, true}, {api.Pin, true, -1, 1, 2, true}, {api.Pin, true, -1, 0.5, 3, false},
		{api.Rail, false, 0, 0, 1, true}, {api.Rail, true, 4, 4, 1, true}, {api.Rail, true, 5, 6, 2, false},
		{api.Rod, false, 0, 0, 1, false}, {api.Rod, true, 0, 9, 0, false}, {api.Weld, false, 0, 0, 3, false}, {api.Weld, true, 5, 6, 3, false}, {api.Gear, true, 5, 6, 1, false},
	} {
		j := plain(c.kind)
		j.Limit, j.Low, j.High, j.Speed, j.Most, j.Push = c.limit, c.low, c.high, -7, 8, [3]float64{9, 9, 9}
		bare := mustRows(t, j, x, y, set)
		j.Motor = true
		l := mustRows(t, j, x, y, set)
		if len(bare) != c.rows || !sameRows(l[:len(bare)], bare) || (len(l) == c.rows+1) != c.driven {
			t.Fatalf("%v: %v, driven %v", c, bare, l)
		}
		if !c.driven {
			continue
		}
		if r := l[c.rows]; r.Bias != -7 || r.Low != -2 || r.High != 2 || r.Push != 2 {
			t.Errorf("%v: %v", c, r)
		}
	}
	// A motor without any force holds its row all the same.
	j := plain(api.Pin)
	j.Motor, j.Speed = true, 3
	if r := mustRows(t, j, x, y, set)[2]; !same(r.Low, minus) || !same(r.High, 0) || !same(r.Push, minus) {
		t.Errorf("a motor without force: %v", r)
	}
}

// TestP19_2Rod: where there is no way from place to place, it is told to be upward.
func TestP19_2Rod(t *testing.T) {
	j := plain(api.Rod)
	j.Rest, j.AtA, j.AtB = 2, v(3, 1), v(-1, 1)
	for _, c := range []struct {
		name string
		y    api.Body
		bias float64
	}{
		{"together", ball(4, 0), 2},
		{"too far for a square", ball(0x1p600, 0), -inf},
	} {
		l := mustRows(t, j, ball(0, 0), c.y, halves())
		if len(l) != 1 || !sameVec(l[0].WayB, v(0, 1)) || !sameVec(l[0].WayA, v(minus, -1)) || l[0].Bias != c.bias {
			t.Errorf("%s: %v", c.name, l)
		}
	}
	near := plain(api.Rod)
	if l := mustRows(t, near, ball(0, 0), ball(0x1p-600, -0x1p-600), halves()); len(l) != 1 || !sameVec(l[0].WayB, v(0, 1)) || l[0].Bias != 0 {
		t.Errorf("too near for a square: %v", l)
	}
	// Far away a gap that is no number holds nothing.
	far := turned(most, 0, complex(most, 0))
	j.AtB, j.Limit, j.High = j.AtA, true, 1
	if l := mustRows(t, j, far, far, halves()); len(l) != 0 {
		t.Errorf("a gap that is no number: %v", l)
	}
}

// TestP19_2Rail: the rail's arm of the first body reaches to the second one's place.
func TestP19_2Rail(t *testing.T) {
	j := plain(api.Rail)
	j.AtA, j.AtB, j.Axis = v(1, 0), v(0, 1), v(0.6, 0.8)
	j.Motor, j.Speed, j.Most = true, 2, 3
	// The first place is (0, 1), the second one (3, 7); the axis (-0.8, 0.6), across it (-0.6, -0.8).
	l := mustRows(t, j, turned(0, 0, 1i), turned(4, 7, 1i), halves())
	want := []api.Row{
		{A: 3, B: 1, WayA: v(0.6, 0.8), WayB: v(-0.6, -0.8), Low: -inf, High: inf, Of: -1},
		{A: 3, B: 1, WayA: v(0.8, -0.6), WayB: v(-0.8, 0.6), Bias: 2, Low: -1.5, High: 1.5, Of: -1},
	}
	want[0].TurnA, want[0].TurnB, want[0].Bias = -cross(v(3, 7), v(-0.6, -0.8)), cross(v(-1, 0), v(-0.6, -0.8)), -dot(v(3, 6), v(-0.6, -0.8))
	want[1].TurnA, want[1].TurnB = -cross(v(3, 7), v(-0.8, 0.6)), cross(v(-1, 0), v(-0.8, 0.6))
	if !sameRows(l, want) {
		t.Errorf("%v, not %v", l, want)
	}
}

// TestP19_2Weld: what the second body is turned by, seen from the first one, shall be By of Rest.
func TestP19_2Weld(t *testing.T) {
	for _, c := range []struct {
		x, y       complex128
		rest, bias float64
	}{
		{1, 1, 0, 0}, {1, 1i, 0, -1}, {1, 1i, 1, 0}, {1, 1, 1, 1}, {1i, -1, 1, 0}, {1i, 1, -1, 0}, {1, 0.6 + 0.8i, 0.5, 0}, {0.6 + 0.8i, 1, -0.5, 0}, {1, 0.6 + 0.8i, 0, -0.8},
		{1, -1, 0, 0}, {1, -1, api.MaxReal, -0x1p-39},
	} {
		j := plain(api.Weld)
		j.Rest = c.rest
		l := mustRows(t, j, turned(0, 0, c.x), turned(0, 0, c.y), halves())
		if len(l) != 3 || math.Abs(l[2].Bias-c.bias) > 0x1p-50 || l[2].TurnA != -1 || l[2].TurnB != 1 || l[2].WayA != v(0, 0) || l[2].WayB != v(0, 0) {
			t.Errorf("%v: %v", c, l)
		}
	}
}

func TestP19_2Wild(t *testing.T) {
	for _, k := range kinds {
		for i := range motion {
			for _, f := range []float64{none, inf, -inf} {
				j, x := plain(k), ball(0, 0)
				j.Rest = 1
				set(&x, i, f)
				stays := len(mustRows(t, j, ball(0, 0), ball(4, 0), halves()))
				if i < 7 {
					stays = 0
				}
				if l := mustRows(t, j, x, ball(4, 0), halves()); len(l) != stays {
					t.Errorf("kind %d, %d %v: %v", k, i, f, l)
				}
				if l := mustRows(t, j, ball(4, 0), x, halves()); len(l) != stays {
					t.Errorf("kind %d, %d %v: %v", k, i, f, l)
				}
				if off := mustOff(t, j, x, ball(4, 0)); i < 7 && !same(off, 0) {
					t.Errorf("kind %d, %d %v: Off %v", k, i, f, off)
				}
				if off := mustOff(t, j, ball(4, 0), x); i < 7 && !same(off, 0) {
					t.Errorf("kind %d, %d %v: Off %v", k, i, f, off)
				}
			}
		}
	}
}

func TestP19_3Keep(t *testing.T) {
	s, count := source(3), map[string]int{}
	pushes := []float64{none, inf, -inf, past, -past, api.MaxReal, -api.MaxReal, 0, minus, tiny, 5, most}
	for range 3000 {
		j := s.joint()
		rows := make([]api.Row, s.below(6), 8)
		want := j
		want.Push = [3]float64{}
		for i := range rows {
			// Nothing of a row is asked but its Push.
			f := pushes[s.below(len(pushes))]
			rows[i] = api.Row{A: -1, B: -1, Bias: none, Low: 3, High: 2, TurnA: inf, Of: -9, Push: f}
			if i < 3 && math.Abs(f) <= api.MaxReal {
				want.Push[i] = f
				count["kept"]++
			}
		}
		old := slices.Clone(rows)
		got, e := joint.Keep(j, rows)
		if len(rows) > 3 {
			isErr(t, e, api.ErrArg, "Keep", rows)
			want = api.Joint{}
			count["many"]++
		} else {
			isErr(t, e, api.OK, "Keep", rows)
		}
		if !sameJoint(got, want) || !sameRows(rows, old) {
			t.Fatalf("Keep(%v, %v) is %v, not %v", j, rows, got, want)
		}
		if len(rows) == 0 {
			count["none"]++
		}
	}
	enough(t, count, 100, "kept", "many", "none")
	j := pin()
	j.Push = [3]float64{1, 2, 3}
	if got, e := joint.Keep(j, nil); e != api.OK || got.Push != [3]float64{} {
		t.Errorf("Keep without rows: %v %v", got, e)
	}
	if got, e := joint.Keep(j, []api.Row{{Push: 7}, {Push: 8}, {Push: 9}}); e != api.OK || got.Push != [3]float64{7, 8, 9} {
		t.Errorf("Keep of three rows: %v %v", got, e)
	}
	if got, e := joint.Keep(j, []api.Row{{Push: minus}}); e != api.OK || !same(got.Push[0], minus) || !same(got.Push[1], 0) {
		t.Errorf("Keep of minus nought: %v %v", got, e)
	}
}

func TestP19_4Errors(t *testing.T) {
	s := source(4)
	heavy := ball(0, 0)
	heavy.Parts[0].Density = 0 // ErrMass
	for range 300 {
		j, well, bad := s.joint(), s.worldly(4), s.worldly(4)
		s.spoil(&bad)
		_, want := joint.Rows(j, 0, 1, bad, well, halves())
		if want == api.OK {
			t.Fatalf("kept: %v", bad)
		}
		for _, c := range []struct {
			x, y api.Body
			want api.Errno
		}{{bad, well, want}, {well, bad, want}, {bad, heavy, want}, {heavy, bad, api.ErrMass}} {
			off, e := joint.Off(j, c.x, c.y)
			isErr(t, e, c.want, "Off", c.x, c.y)
			a, b, e := joint.Places(j, c.x, c.y)
			isErr(t, e, c.want, "Places", c.x, c.y)
			l, e := joint.Rows(j, 0, 1, c.x, c.y, api.Settings{})
			isErr(t, e, c.want, "Rows", c.x, c.y)
			if !same(off, 0) || !sameVec(a, v(0, 0)) || !sameVec(b, v(0, 0)) || len(l) != 0 {
				t.Fatalf("beside an error: %v %v %v %v", off, a, b, l)
			}
		}
	}
}

func TestP19_4OffPlaces(t *testing.T) {
	s, count := source(5), map[string]int{}
	for range 20000 {
		j, x, y := s.joint(), s.worldly(5), s.worldly(5)
		if got, want := mustOff(t, j, x, y), offOf(j, x, y); !same(got, want) {
			t.Fatalf("Off(%v, %v, %v) is %v, not %v", j, x, y, got, want)
		}
		l := lying(j, x, y)
		a, b, e := joint.Places(j, x, y)
		if e != api.OK || !sameVec(a, l.pa) || !sameVec(b, l.pb) {
			t.Fatalf("Places(%v, %v, %v) are %v %v %v, not %v %v", j, x, y, a, b, e, l.pa, l.pb)
		}
		switch {
		case wild(x) || wild(y):
			count["wild"]++
			if !finite(a.X, a.Y, b.X, b.Y) {
				count["wild place"]++
			}
		case !finite(a.X, a.Y, b.X, b.Y):
			count["far place"]++
		case j.Kind == api.Rod && j.Limit && offOf(j, x, y) == 0:
			count["rod within"]++
		case j.Kind == api.Rod && j.Limit && long(l.d) < j.Low:
			count["rod below"]++
		case j.Kind == api.Rod && j.Limit:
			count["rod above"]++
		case j.Kind == api.Rod && long(l.d) < j.Rest:
			count["rod short"]++
		default:
			count["other"]++
		}
	}
	enough(t, count, 50, "wild", "wild place", "far place", "rod within", "rod below", "rod above", "rod short", "other")
}

func TestP19_4OffEdges(t *testing.T) {
	at := func(x, y float64) api.Body { return ball(x, y) }
	rod, held, rail := plain(api.Rod), plain(api.Rod), plain(api.Rail)
	rod.Rest = 7
	held.Rest, held.Limit, held.Low, held.High = 100, true, 2, 6
	rail.Axis, rail.Limit, rail.Low, rail.High = v(0, 1), true, 50, 60
	for i, c := range []struct {
		j    api.Joint
		y    api.Body
		want float64
	}{
		{plain(api.Pin), at(3, 4), 5}, {plain(api.Weld), at(3, 4), 5}, {plain(api.Gear), at(3, 4), 0},
		{rod, at(3, 4), 2}, {rod, at(6, 8), 3}, {rod, at(0, 7), 0}, {rod, at(0, 0), 7},
		{held, at(3, 4), 0}, {held, at(0, 2), 0}, {held, at(6, 0), 0}, {held, at(1, 0), 1}, {held, at(6, 8), 4}, {held, at(0, 0), 2},
		{rail, at(3, 4), 3}, {rail, at(-3, 4), 3}, {rail, at(0, 4), 0},
		{plain(api.Pin), at(0x1p600, 0), inf}, {rod, at(0x1p600, 0), inf}, {held, at(0x1p600, 0), inf}, {plain(api.Gear), at(most, -most), 0},
	} {
		if off := mustOff(t, c.j, at(0, 0), c.y); !same(off, c.want) {
			t.Errorf("row %d: %v, not %v", i, off, c.want)
		}
	}
	// A gap that is no number counts for none between ends.
	far := turned(most, 0, complex(most, 0))
	rod.AtA, rod.AtB, held.AtA, held.AtB = v(3, 0), v(3, 0), v(3, 0), v(3, 0)
	if off := mustOff(t, rod, far, far); !same(off, none) {
		t.Errorf("a rod over no number: %v", off)
	}
	if off := mustOff(t, held, far, far); !same(off, 0) {
		t.Errorf("a held rod over no number: %v", off)
	}
}

// speedOf is a row's speed, as chapter 20 has it.
func speedOf(r api.Row, x, y api.Body) float64 {
	return dot(r.WayA, x.Speed) + float64(r.TurnA*x.Spin) + dot(r.WayB, y.Speed) + float64(r.TurnB*y.Spin)
}

func TestP19_5Rest(t *testing.T) {
	s, count := source(6), map[int]int{}
	for range 4000 {
		j, x, y := s.joint(), s.body(5), s.body(5)
		x.Speed, x.Spin, y.Speed, y.Spin = v(0, 0), 0, v(0, 0), 0
		l := mustRows(t, j, x, y, s.settings())
		if len(l) > 3 {
			t.Fatalf("so many rows: %v", l)
		}
		count[len(l)]++
		for _, r := range l {
			if f := speedOf(r, x, y); f != 0 {
				t.Fatalf("%v has the speed %v of what does not move", r, f)
			}
		}
		// Nor is there one where both go on alike.
		x.Speed = s.place(8)
		y.Speed = x.Speed
		for _, r := range mustRows(t, j, x, y, halves()) {
			if f := speedOf(r, x, y); f != 0 {
				t.Fatalf("%v has the speed %v of what goes on alike", r, f)
			}
		}
	}
	enough(t, count, 100, 0, 1, 2, 3)
}

func TestP19_5Together(t *testing.T) {
	s := source(7)
	for range 1000 {
		j := plain(api.Pin)
		x, y := s.body(5), s.body(5)
		x.Speed, x.Spin, y.Speed, y.Spin = v(0, 0), 0, v(0, 0), 0
		j.AtA, j.AtB, j.Push = s.place(3), s.place(3), [3]float64{1, 2, 3}
		// By quarters of eighths nothing is rounded, so that the places can be laid upon each other.
		eighth := func(f float64) float64 { return math.Round(f*8) / 8 }
		for _, p := range []*api.Vec{&j.AtA, &j.AtB, &x.Frame.At} {
			*p = v(eighth(p.X), eighth(p.Y))
		}
		quarters := []complex128{1, 1i, -1, -1i}
		x.Frame.Turn, y.Frame.Turn = quarters[s.below(4)], quarters[s.below(4)]
		y.Frame.At = less(place(x.Frame, j.AtA), applied(y.Frame.Turn, j.AtB))
		l := mustRows(t, j, x, y, s.settings())
		if len(l) != 2 || l[0].Bias != 0 || l[1].Bias != 0 || mustOff(t, j, x, y) != 0 {
			t.Fatalf("places that fall together: %v", l)
		}
	}
}

func TestP19_5OtherSide(t *testing.T) {
	s, count := source(8), map[uint8]int{}
	for range 6000 {
		j, x, y := s.joint(), s.body(5), s.body(5)
		if j.Kind == api.Rail || j.Kind == api.Gear {
			continue
		}
		j.Limit = j.Limit && j.Kind != api.Rod
		other := j
		other.A, other.B, other.AtA, other.AtB = j.B, j.A, j.AtB, j.AtA
		if j.Kind == api.Weld {
			other.Rest = -j.Rest
		}
		if a, b := mustOff(t, j, x, y), mustOff(t, other, y, x); !same(a, b) {
			t.Fatalf("%v is off by %v, from the other body by %v", j, a, b)
		}
		if a, b, e := joint.Places(other, y, x); e != api.OK || !sameVec(a, lying(j, x, y).pb) || !sameVec(b, lying(j, x, y).pa) {
			t.Fatalf("the places from the other body: %v %v %v", a, b, e)
		}
		count[j.Kind]++
	}
	enough(t, count, 500, api.Pin, api.Rod, api.Weld)
}

func TestP19_5Kept(t *testing.T) {
	s, count := source(9), map[string]int{}
	for range 6000 {
		j, x, y := s.joint(), s.worldly(5), s.worldly(5)
		rows := mustRows(t, j, x, y, s.settings())
		kept, e := joint.Keep(j, rows)
		isErr(t, e, api.OK, "Keep", j, rows)
		want := j
		for i := range want.Push {
			switch {
			case i >= len(rows):
				want.Push[i] = 0
				count["no row"]++
			case j.Push[i] < rows[i].Low || j.Push[i] > rows[i].High:
				want.Push[i] = clamped(j.Push[i], rows[i].Low, rows[i].High)
				count["beyond"]++
			default:
				count["kept"]++
			}
			if kept.Push[i] != want.Push[i] {
				t.Fatalf("Keep(%v, %v) is %v", j, rows, kept)
			}
		}
		if kept.Push = want.Push; !sameJoint(kept, want) {
			t.Fatalf("Keep(%v, %v) is %v", j, rows, kept)
		}
	}
	enough(t, count, 300, "no row", "beyond", "kept")
}

// scaledBody has lengths so many times as great; what it weighs is not asked.
func scaledBody(b api.Body, by float64) api.Body {
	b = bodyCopy(b)
	for i := range b.Parts {
		p := &b.Parts[i].Shape
		p.Radius *= by
		for k, at := range p.Points {
			p.Points[k] = v(at.X*by, at.Y*by)
		}
	}
	b.Frame.At, b.Speed = v(b.Frame.At.X*by, b.Frame.At.Y*by), v(b.Speed.X*by, b.Speed.Y*by)
	return b
}

// scaledJoint has lengths, and what a motor is to do, so many times as great; its impulses as chapter 20 has them.
func scaledJoint(j api.Joint, by float64) api.Joint {
	j.AtA, j.AtB = v(j.AtA.X*by, j.AtA.Y*by), v(j.AtB.X*by, j.AtB.Y*by)
	cube := by * by * by
	switch j.Kind {
	case api.Pin:
		j.Most *= cube * by
	case api.Rod, api.Rail:
		j.Rest, j.Low, j.High, j.Speed, j.Most = j.Rest*by, j.Low*by, j.High*by, j.Speed*by, j.Most*cube
	}
	return j
}

func TestP19_5PowersOfTwo(t *testing.T) {
	s, count := source(10), map[uint8]int{}
	for range 6000 {
		j, x, y := s.joint(), s.body(5), s.body(5)
		j.Push = [3]float64{}
		by := math.Ldexp(1, s.below(13)-6)
		set := api.Settings{Step: 1.0 / 60, Share: 0.2}
		small := mustRows(t, j, x, y, set)
		great := mustRows(t, scaledJoint(j, by), scaledBody(x, by), scaledBody(y, by), set)
		if len(small) != len(great) {
			t.Fatalf("%v times: %v, %v", by, small, great)
		}
		for i, r := range small {
			along := r.WayB != v(0, 0)
			most := by * by * by
			if along {
				r.Bias, r.TurnA, r.TurnB = r.Bias*by, r.TurnA*by, r.TurnB*by
			} else {
				most *= by
			}
			r.Low, r.High, r.Push = r.Low*most, r.High*most, r.Push*most
			if g := great[i]; r.Low == 0 && g.Low == 0 || r.High == 0 && g.High == 0 {
				r.Low, r.High = g.Low, g.High // held: 0 times infinite is none
			}
			if !sameRow(r, great[i]) {
				t.Fatalf("%v times, row %d: %v, not %v", by, i, great[i], r)
			}
			count[j.Kind]++
		}
		if a, b := mustOff(t, j, x, y), mustOff(t, scaledJoint(j, by), scaledBody(x, by), scaledBody(y, by)); !same(a*by, b) {
			t.Fatalf("%v times: Off %v, %v", by, a, b)
		}
	}
	enough(t, count, 300, kinds...)
}

// TestMemory: what is handed in is read alone, and what is answered is new.
func TestMemory(t *testing.T) {
	s := source(11)
	for range 500 {
		j, x, y, set := s.joint(), s.worldly(5), s.worldly(5), s.settings()
		oldX, oldY := bodyCopy(x), bodyCopy(y)
		l := mustRows(t, j, x, y, set)
		mustOff(t, j, x, y)
		if _, _, e := joint.Places(j, x, y); e != api.OK || !sameBody(x, oldX) || !sameBody(y, oldY) {
			t.Fatalf("changed: %v %v %v", x, y, e)
		}
		first := slices.Clone(l)
		again := mustRows(t, j, x, y, set)
		for i := range again[:cap(again)] {
			again[:cap(again)][i] = api.Row{Push: 77, Of: 7}
		}
		if !sameRows(l, first) || !sameRows(mustRows(t, j, x, y, set), first) {
			t.Fatalf("two calls' rows are one: %v", l)
		}
		rows := make([]api.Row, 2, 4)
		spare := rows[:4]
		for i := range spare {
			spare[i].Push, spare[i].Bias = float64(i+1), none
		}
		old := slices.Clone(spare)
		if _, e := joint.Keep(j, rows); e != api.OK || !sameRows(spare, old) {
			t.Fatalf("Keep changed its rows: %v %v", spare, e)
		}
	}
}
