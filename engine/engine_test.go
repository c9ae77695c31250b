package engine

import (
	"math"
	"math/rand"
	"slices"
	"testing"

	"swashplate/api"
	"swashplate/rotor"
	"swashplate/samples"
)

func span(low, high int) api.Span { return api.Span{Low: low, High: high} }

func craft() api.Craft { return samples.Craft() }

func air() api.Air { return samples.Air() }

func field() api.Field { return samples.Field() }

func pose(x, speed, height int) api.Pose { return api.Pose{X: x, Speed: speed, Height: height} }

func TestP3_1Check(t *testing.T) {
	if e := Check(craft(), field()); e != api.OK {
		t.Errorf("Check = %d", e)
	}
	for i, change := range []func(c *api.Craft){
		func(c *api.Craft) { c.One = -1 }, func(c *api.Craft) { c.One = 101 },
		func(c *api.Craft) { c.Unit = 0 }, func(c *api.Craft) { c.Unit = 1001 },
		func(c *api.Craft) { c.Step = 0 }, func(c *api.Craft) { c.Step = 1001 },
		func(c *api.Craft) { c.Top = 0 }, func(c *api.Craft) { c.Top = 7; c.Unit = 1 },
		func(c *api.Craft) { c.Drop = 0; c.Sink = 0 }, func(c *api.Craft) { c.Drop = 4 },
		func(c *api.Craft) { c.Touch = -1 }, func(c *api.Craft) { c.Touch = 4 },
		func(c *api.Craft) { c.Sink = 0 }, func(c *api.Craft) { c.Sink = 3 },
		func(c *api.Craft) { c.Unit = 34 },
		func(c *api.Craft) { c.Rotor.Level.X[0] = 1 },
		func(c *api.Craft) { c.Rotor.RingLow.X, c.Rotor.RingHigh.X = []int{1, 30}, []int{1, 30} },
		func(c *api.Craft) { c.Rotor.RingLow.X, c.Rotor.RingHigh.X = []int{-9, -1}, []int{-9, -1} },
		func(c *api.Craft) { c.Top = math.MaxInt }, func(c *api.Craft) { c.Unit = math.MinInt },
	} {
		c := craft()
		change(&c)
		if e := Check(c, api.Field{Length: -1}); e != api.ErrCraft {
			t.Errorf("craft %d: %d", i, e)
		}
	}
	c := craft()
	c.Rotor.Burn = 0
	c.Top = 0
	if e := Check(c, field()); e != api.ErrRotor {
		t.Errorf("a craft without a rotor: %d", e)
	}
	for i, change := range []func(f *api.Field){
		func(f *api.Field) { f.Length = -1 }, func(f *api.Field) { f.Length = 41 },
		func(f *api.Field) { f.Clear = 0 }, func(f *api.Field) { f.Clear = 13 },
		func(f *api.Field) { f.Safe = -1 }, func(f *api.Field) { f.Safe = 7 },
		func(f *api.Field) { f.Hindrances[0].At = -41 }, func(f *api.Field) { f.Hindrances[0].At = 41 },
		func(f *api.Field) { f.Hindrances[0].Height = 0 }, func(f *api.Field) { f.Hindrances[0].Height = 13 },
		func(f *api.Field) { f.Hindrances = slices.Repeat(f.Hindrances, 7) },
	} {
		f := field()
		change(&f)
		if e := Check(craft(), f); e != api.ErrSite {
			t.Errorf("field %d: %d", i, e)
		}
	}
	f := api.Field{Length: 40, Clear: 12, Safe: 6, Hindrances: slices.Repeat([]api.Hindrance{{At: -40, Height: 12}}, 6)}
	if e := Check(craft(), f); e != api.OK {
		t.Errorf("Check of a great field: %d", e)
	}
}

func TestP3_1Rates(t *testing.T) {
	if l, e := Rates(craft(), air(), false); !slices.Equal(l, []int{4, 5, 7, 5}) || e != api.OK {
		t.Errorf("Rates = %v, %d", l, e)
	}
	if l, e := Rates(craft(), air(), true); !slices.Equal(l, []int{-1, 0, 1, 0}) || e != api.OK {
		t.Errorf("Rates with one engine = %v, %d", l, e)
	}
}

func TestP3_1Steps(t *testing.T) {
	if l, e := Steps(craft(), air(), field(), pose(0, 0, 1), true); !slices.Equal(l, []api.Pose{{}, pose(1, 1, 0), pose(1, 1, 1)}) || e != api.OK {
		t.Errorf("Steps with one engine = %v, %d", l, e)
	}
	var want []api.Pose
	for h := range 4 {
		want = append(want, pose(0, 0, h+1))
	}
	for h := range 5 {
		want = append(want, pose(1, 1, h+1))
	}
	if l, e := Steps(craft(), air(), field(), api.Pose{}, false); !slices.Equal(l, want) || e != api.OK {
		t.Errorf("Steps = %v, %d", l, e)
	}
	// The hindrance at 6 stands in the way of all steps but those on the spot.
	if l, e := Steps(craft(), air(), field(), pose(5, 1, 1), false); !slices.Equal(l, []api.Pose{pose(5, 0, 1), pose(5, 0, 2), pose(5, 0, 3), pose(5, 0, 4), pose(5, 0, 5)}) || e != api.OK {
		t.Errorf("Steps before a hindrance = %v, %d", l, e)
	}
	// A sink of 10 would be in the wake, one of 20 is below it.
	if l, e := Steps(craft(), air(), field(), pose(5, 0, 4), true); !slices.Equal(l, []api.Pose{pose(5, 0, 2), pose(6, 1, 2), pose(6, 1, 4)}) || e != api.OK {
		t.Errorf("Steps over a hindrance = %v, %d", l, e)
	}
	if l, e := Steps(craft(), air(), field(), pose(40, 3, 5), false); len(l) != 0 || e != api.OK {
		t.Errorf("Steps behind the last place = %v, %d", l, e)
	}
}

func TestP3_2StopAndAway(t *testing.T) {
	for _, c := range []struct {
		p    api.Pose
		want []api.Pose
		e    api.Errno
	}{{pose(0, 0, 1), []api.Pose{{}}, api.OK}, {pose(1, 1, 2), []api.Pose{pose(3, 2, 1), pose(4, 1, 0)}, api.OK}, {pose(3, 2, 2), nil, api.ErrNone}, {pose(3, 1, 0), nil, api.OK}} {
		if l, e := Stop(craft(), air(), field(), c.p); !slices.Equal(l, c.want) || e != c.e {
			t.Errorf("Stop from %v = %v, %d", c.p, l, e)
		}
	}
	for _, c := range []struct {
		p    api.Pose
		want []api.Pose
		e    api.Errno
	}{{pose(3, 2, 2), []api.Pose{pose(5, 2, 3)}, api.OK}, {pose(0, 0, 0), nil, api.ErrNone}, {pose(9, 2, 3), nil, api.OK}} {
		if l, e := Away(craft(), air(), field(), c.p); !slices.Equal(l, c.want) || e != c.e {
			t.Errorf("Away from %v = %v, %d", c.p, l, e)
		}
	}
}

func TestP3_3Cleared(t *testing.T) {
	for _, c := range []struct {
		l    []api.Pose
		tick int
		is   bool
		e    api.Errno
	}{
		{[]api.Pose{pose(1, 1, 2), pose(3, 2, 3)}, -1, true, api.OK},
		{[]api.Pose{pose(1, 1, 2)}, -1, false, api.OK},
		{[]api.Pose{pose(1, 1, 2), pose(3, 2, 9)}, -1, true, api.OK},
		{[]api.Pose{pose(1, 1, 2), pose(3, 2, 10)}, 1, false, api.ErrMove},
		{nil, -1, false, api.OK},
		{[]api.Pose{pose(1, 1, 0)}, 0, false, api.ErrMove},
		{[]api.Pose{pose(1, 1, 2), pose(3, 2, 3), pose(99, 9, 9), pose(0, 0, 0)}, 2, false, api.ErrMove},
		{[]api.Pose{pose(1, 1, 1), pose(3, 2, 1), pose(5, 2, 1)}, 3, false, api.OK},
		{[]api.Pose{pose(1, 1, 1), pose(3, 2, 1), pose(6, 3, 2)}, 2, false, api.ErrMove},
		{slices.Repeat([]api.Pose{pose(0, 0, 1)}, 30), -1, false, api.OK},
		{slices.Repeat([]api.Pose{pose(0, 0, 1)}, 31), 0, false, api.ErrMany},
	} {
		if tick, is, e := Cleared(craft(), air(), field(), c.l); tick != c.tick || is != c.is || e != c.e {
			t.Errorf("Cleared of %v = %d, %v, %d", c.l, tick, is, e)
		}
	}
}

func TestP3_3Decision(t *testing.T) {
	for _, c := range []struct {
		l    []api.Pose
		want int
		e    api.Errno
	}{
		{[]api.Pose{pose(1, 1, 2), pose(3, 2, 3)}, 1, api.OK},
		{[]api.Pose{pose(0, 0, 1)}, 1, api.OK},
		{[]api.Pose{pose(1, 1, 1), pose(2, 1, 0)}, 0, api.ErrNone},
		{[]api.Pose{pose(1, 1, 1), pose(3, 2, 1), pose(5, 2, 1)}, 0, api.ErrNone},
		{nil, 0, api.ErrNone},
		{[]api.Pose{pose(1, 1, 2), pose(3, 2, 10)}, 0, api.ErrMove},
		{slices.Repeat([]api.Pose{pose(0, 0, 1)}, 31), 0, api.ErrMany},
	} {
		if n, e := Decision(craft(), air(), field(), c.l); n != c.want || e != c.e {
			t.Errorf("Decision of %v = %d, %d", c.l, n, e)
		}
	}
}

func TestP3_3Heaviest(t *testing.T) {
	l := []api.Pose{pose(1, 1, 2), pose(3, 2, 3)}
	if n, e := Heaviest(craft(), air(), field(), l); n != 1500 || e != api.OK {
		t.Errorf("Heaviest = %d, %d", n, e)
	}
	a := air()
	a.Weight.High = 2000
	want := 0
	for w := 1000; w <= 2000; w++ {
		a.Weight.High = w
		if _, is, _ := Cleared(craft(), a, field(), l); is {
			want = w
		}
	}
	a.Weight.High = 2000
	if n, e := Heaviest(craft(), a, field(), l); n != want || n == 2000 || e != api.OK {
		t.Errorf("Heaviest of up to 2000 = %d, %d, want %d", n, e, want)
	}
	if n, e := Heaviest(craft(), a, field(), l[:1]); n != 0 || e != api.ErrNone {
		t.Errorf("Heaviest of a departure that is not cleared = %d, %d", n, e)
	}
	if n, e := Heaviest(craft(), a, field(), []api.Pose{pose(9, 1, 2)}); n != 0 || e != api.ErrNone {
		t.Errorf("Heaviest of a departure that is not possible = %d, %d", n, e)
	}
	if n, e := Heaviest(craft(), a, field(), make([]api.Pose, 31)); n != 0 || e != api.ErrMany {
		t.Errorf("Heaviest of a long departure = %d, %d", n, e)
	}
}

func TestP3_4DepartAndApproach(t *testing.T) {
	if l, e := Depart(craft(), air(), field()); !slices.Equal(l, []api.Pose{pose(1, 1, 1), pose(3, 2, 3)}) || e != api.OK {
		t.Errorf("Depart = %v, %d", l, e)
	}
	if l, e := Approach(craft(), air(), field(), pose(-3, 2, 3)); !slices.Equal(l, []api.Pose{pose(-1, 2, 1), pose(0, 1, 0)}) || e != api.OK {
		t.Errorf("Approach = %v, %d", l, e)
	}
	f := field()
	f.Safe = 6
	if l, e := Depart(craft(), air(), f); l != nil || e != api.ErrNone {
		t.Errorf("Depart without a safe speed = %v, %d", l, e)
	}
	if l, e := Approach(craft(), air(), field(), pose(30, 2, 3)); l != nil || e != api.ErrNone {
		t.Errorf("Approach from behind = %v, %d", l, e)
	}
	if l, e := Approach(craft(), air(), field(), pose(2, 1, 0)); l != nil || e != api.OK {
		t.Errorf("Approach of one that is down = %v, %d", l, e)
	}
}

type call func(c api.Craft, a api.Air, f api.Field, p api.Pose) api.Errno

func withPose() map[string]call {
	return map[string]call{
		"Steps": func(c api.Craft, a api.Air, f api.Field, p api.Pose) api.Errno {
			_, e := Steps(c, a, f, p, true)
			return e
		},
		"Stop": func(c api.Craft, a api.Air, f api.Field, p api.Pose) api.Errno { _, e := Stop(c, a, f, p); return e },
		"Away": func(c api.Craft, a api.Air, f api.Field, p api.Pose) api.Errno { _, e := Away(c, a, f, p); return e },
		"Approach": func(c api.Craft, a api.Air, f api.Field, p api.Pose) api.Errno {
			_, e := Approach(c, a, f, p)
			return e
		},
	}
}

func withField() map[string]call {
	l := []api.Pose{pose(1, 1, 2), pose(3, 2, 3)}
	m := map[string]call{
		"Cleared": func(c api.Craft, a api.Air, f api.Field, p api.Pose) api.Errno {
			_, _, e := Cleared(c, a, f, l)
			return e
		},
		"Decision": func(c api.Craft, a api.Air, f api.Field, p api.Pose) api.Errno {
			_, e := Decision(c, a, f, l)
			return e
		},
		"Heaviest": func(c api.Craft, a api.Air, f api.Field, p api.Pose) api.Errno {
			_, e := Heaviest(c, a, f, l)
			return e
		},
		"Depart": func(c api.Craft, a api.Air, f api.Field, p api.Pose) api.Errno { _, e := Depart(c, a, f); return e },
	}
	for name, f := range withPose() {
		m[name] = f
	}
	return m
}

func withAir() map[string]call {
	m := withField()
	m["Rates"] = func(c api.Craft, a api.Air, f api.Field, p api.Pose) api.Errno { _, e := Rates(c, a, true); return e }
	return m
}

func TestErrorsInTheirOrder(t *testing.T) {
	good := pose(0, 1, 2)
	for name, f := range withAir() {
		wrong := craft()
		wrong.Rotor.Climb = 0
		wrong.Top = 0
		if e := f(wrong, api.Air{Wind: span(1, 0)}, api.Field{}, pose(99, 0, 0)); e != api.ErrRotor {
			t.Errorf("%s: %d", name, e)
		}
		wrong = craft()
		wrong.Top = 0
		if e := f(wrong, api.Air{Wind: span(1, 0)}, api.Field{}, pose(99, 0, 0)); e != api.ErrCraft {
			t.Errorf("%s: %d", name, e)
		}
		a := air()
		a.Wind = span(1, 0)
		a.Temp = span(0, 41)
		if e := f(craft(), a, api.Field{}, pose(99, 0, 0)); e != api.ErrAir {
			t.Errorf("%s: %d", name, e)
		}
		for i, change := range []func(a *api.Air){
			func(a *api.Air) { a.Temp.High = 41 }, func(a *api.Air) { a.Temp.Low = -1 },
			func(a *api.Air) { a.Height.High = 1001 }, func(a *api.Air) { a.Height.Low = -1 },
			func(a *api.Air) { a.Weight.High = 2001 }, func(a *api.Air) { a.Weight.Low = 999 },
		} {
			a := air()
			change(&a)
			if e := f(craft(), a, api.Field{}, pose(99, 0, 0)); e != api.ErrArg {
				t.Errorf("%s with the air %d: %d", name, i, e)
			}
		}
		a = air()
		a.Wind = span(-5, 5000)
		if e := f(craft(), a, field(), good); e != api.OK {
			t.Errorf("%s with a great wind: %d", name, e)
		}
		low := craft()
		low.Rotor.RingLow.Y, low.Rotor.RingHigh.Y = []int{1200, 2000}, []int{1200, 2000}
		if e := f(low, air(), api.Field{}, pose(99, 0, 0)); e != api.ErrArg {
			t.Errorf("%s with a weight that is not on RingLow: %d", name, e)
		}
	}
	for name, f := range withField() {
		if e := f(craft(), air(), api.Field{}, pose(99, 0, 0)); e != api.ErrSite {
			t.Errorf("%s: %d", name, e)
		}
		if e := f(craft(), air(), field(), good); e != api.OK && e != api.ErrNone {
			t.Errorf("%s: %d", name, e)
		}
	}
	for name, f := range withPose() {
		for _, p := range []api.Pose{pose(-41, 0, 1), pose(41, 0, 1), pose(0, -1, 1), pose(0, 4, 1), pose(0, 0, -1), pose(0, 0, 13), pose(0, 2, 0), pose(-1, 0, 0), pose(5, 0, 0), pose(math.MaxInt, math.MinInt, math.MaxInt)} {
			if e := f(craft(), air(), field(), p); e != api.ErrPose {
				t.Errorf("%s from %v: %d", name, p, e)
			}
		}
		for _, p := range []api.Pose{pose(-40, 3, 12), pose(40, 0, 1), pose(4, 1, 0)} {
			if e := f(craft(), air(), field(), p); e == api.ErrPose {
				t.Errorf("%s from %v: %d", name, p, e)
			}
		}
	}
}

// random is any craft, air and field that are valid.
func random(r *rand.Rand) (api.Craft, api.Air, api.Field) {
	c := craft()
	c.One, c.Step, c.Top = 30+r.Intn(60), 5+r.Intn(15), 1+r.Intn(4)
	c.Unit = 1 + r.Intn(100/c.Top)
	c.Drop = 1 + r.Intn(3)
	c.Touch, c.Sink = r.Intn(c.Top+1), 1+r.Intn(c.Drop)
	for i := range 3 {
		for k := range 2 {
			c.Rotor.Level.Values[i][k] = 200 + r.Intn(900)
		}
	}
	a := air()
	a.Weight = span(1000+r.Intn(300), 1300+r.Intn(700))
	f := api.Field{Length: r.Intn(12), Clear: 1 + r.Intn(5), Safe: r.Intn(c.Top + 1)}
	for range r.Intn(4) {
		f.Hindrances = append(f.Hindrances, api.Hindrance{At: r.Intn(30) - 10, Height: 1 + r.Intn(4)})
	}
	return c, a, f
}

// model follows the text of the document, pair by pair of poses.
type model struct {
	c     api.Craft
	a     api.Air
	f     api.Field
	rates map[bool][]int
}

func newModel(c api.Craft, a api.Air, f api.Field) model {
	m := model{c, a, f, map[bool][]int{}}
	for _, one := range []bool{false, true} {
		m.rates[one], _ = Rates(c, a, one)
	}
	return m
}

func (m model) valid(p api.Pose) bool {
	return p.X >= -40 && p.X <= 40 && p.Speed >= 0 && p.Speed <= m.c.Top && p.Height >= 0 && p.Height <= 12
}

func (m model) down(p api.Pose) bool {
	return p.Height == 0 && p.Speed <= m.c.Touch && p.X >= 0 && p.X <= m.f.Length
}

func (m model) away(p api.Pose) bool {
	return p.Height >= m.f.Clear && p.Speed >= m.f.Safe && m.rates[true][p.Speed] >= 0
}

func (m model) step(p, q api.Pose, one bool) bool {
	if !m.valid(p) || !m.valid(q) || q.Speed-p.Speed > 1 || p.Speed-q.Speed > 1 || q.X != p.X+q.Speed {
		return false
	}
	if q.Height < p.Height-m.c.Drop || q.Height > p.Height+m.rates[one][q.Speed] {
		return false
	}
	for _, h := range m.f.Hindrances {
		if h.At >= p.X && h.At <= q.X && (p.Height < h.Height || q.Height < h.Height) {
			return false
		}
	}
	if q.Height == 0 && !(p.Height > 0 && p.Height <= m.c.Sink && q.Speed <= m.c.Touch && q.X >= 0 && q.X <= m.f.Length) {
		return false
	}
	ring := m.c.Rotor.RingLow.X
	if q.Height > 0 && q.Height < p.Height && q.Speed*m.c.Unit <= ring[len(ring)-1] {
		is, e := rotor.Wake(m.c.Rotor, m.a, alone(q.Speed*m.c.Unit), alone((p.Height-q.Height)*m.c.Step))
		return e == api.OK && !is
	}
	return true
}

func (m model) next(p api.Pose, one bool) []api.Pose {
	var l []api.Pose
	for speed := p.Speed - 1; speed <= p.Speed+1; speed++ {
		for height := 0; height <= 12; height++ {
			if q := pose(p.X+speed, speed, height); m.valid(q) && m.step(p, q, one) {
				l = append(l, q)
			}
		}
	}
	return l
}

// distances returns how many steps lead from each pose to one that is in ends, over poses that are in passes.
func (m model) distances(one bool, ends, passes func(p api.Pose) bool) map[api.Pose]int {
	var all []api.Pose
	after := map[api.Pose][]api.Pose{}
	d := map[api.Pose]int{}
	for x := -40; x <= 40; x++ {
		for speed := range m.c.Top + 1 {
			for height := range 13 {
				p := pose(x, speed, height)
				if !passes(p) {
					continue
				}
				all = append(all, p)
				after[p] = m.next(p, one)
				if ends(p) {
					d[p] = 0
				}
			}
		}
	}
	for changed := true; changed; {
		changed = false
		for _, p := range all {
			for _, q := range after[p] {
				n, known := d[q]
				if old, is := d[p]; known && (!is || old > n+1) {
					d[p], changed = n+1, true
				}
			}
		}
	}
	return d
}

// first returns the first of the shortest ways by distances.
func (m model) first(p api.Pose, one bool, d map[api.Pose]int) ([]api.Pose, api.Errno) {
	n, known := d[p]
	if !known {
		return nil, api.ErrNone
	}
	var l []api.Pose
	for ; n > 0; n-- {
		for _, q := range m.next(p, one) {
			if k, known := d[q]; known && k == n-1 {
				l, p = append(l, q), q
				break
			}
		}
	}
	return l, api.OK
}

// TestP3_5To9AllPoses compares all functions with the model, at many poses.
func TestP3_5To9AllPoses(t *testing.T) {
	r := rand.New(rand.NewSource(1))
	departed, decided := 0, 0
	for range 12 {
		c, a, f := random(r)
		m := newModel(c, a, f)
		stops, leaves := m.distances(true, m.down, anywhere), m.distances(true, m.away, anywhere)
		covered := func(p api.Pose) bool {
			_, stop := stops[p]
			_, leave := leaves[p]
			return stop || leave
		}
		lands := m.distances(false, m.down, covered)
		for range 300 {
			p := pose(r.Intn(25)-10, r.Intn(c.Top+1), r.Intn(13))
			if p.Height == 0 && !m.down(p) {
				continue
			}
			for _, one := range []bool{false, true} {
				if l, e := Steps(c, a, f, p, one); !slices.Equal(l, m.next(p, one)) || e != api.OK {
					t.Fatalf("Steps from %v = %v, %d, want %v", p, l, e, m.next(p, one))
				}
			}
			if r.Intn(10) > 0 {
				continue
			}
			want, we := m.first(p, true, stops)
			if l, e := Stop(c, a, f, p); !slices.Equal(l, want) || e != we {
				t.Fatalf("Stop from %v = %v, %d, want %v, %d", p, l, e, want, we)
			}
			want, we = m.first(p, true, leaves)
			if l, e := Away(c, a, f, p); !slices.Equal(l, want) || e != we {
				t.Fatalf("Away from %v = %v, %d, want %v, %d", p, l, e, want, we)
			}
			want, we = m.first(p, false, lands)
			if l, e := Approach(c, a, f, p); !slices.Equal(l, want) || e != we {
				t.Fatalf("Approach from %v = %v, %d, want %v, %d", p, l, e, want, we)
			}
		}
		want, we := m.first(api.Pose{}, false, m.distances(false, m.away, covered))
		l, e := Depart(c, a, f)
		if !slices.Equal(l, want) || e != we {
			t.Fatalf("Depart = %v, %d, want %v, %d", l, e, want, we)
		}
		if e != api.OK {
			continue
		}
		departed++
		if tick, is, e := Cleared(c, a, f, l); tick != -1 || !is || e != api.OK {
			t.Fatalf("Cleared of Depart = %d, %v, %d", tick, is, e)
		}
		if d, e := Decision(c, a, f, l); e == api.OK {
			decided++
			for tick, p := range behindTicks(l) {
				_, stop := stops[p]
				_, leave := leaves[p]
				if tick <= d && !stop || tick >= d && !leave {
					t.Fatalf("Decision = %d, but behind %d: %v, %v", d, tick, stop, leave)
				}
			}
		}
		if w, e := Heaviest(c, a, f, l); w < a.Weight.High || e != api.OK {
			t.Fatalf("Heaviest of a cleared departure = %d, %d", w, e)
		}
	}
	if departed < 3 || decided < 2 {
		t.Errorf("only %d departures, %d decisions", departed, decided)
	}
}

// TestP3_3AnyDeparture clears departures that go anywhere.
func TestP3_3AnyDeparture(t *testing.T) {
	r := rand.New(rand.NewSource(2))
	yes, no, decided := 0, 0, 0
	for range 25 {
		c, a, f := random(r)
		m := newModel(c, a, f)
		stops, leaves := m.distances(true, m.down, anywhere), m.distances(true, m.away, anywhere)
		for range 20 {
			l, p := []api.Pose(nil), api.Pose{}
			for range r.Intn(8) {
				next := m.next(p, false)
				if len(next) == 0 {
					break
				}
				p = next[r.Intn(len(next))]
				l = append(l, p)
			}
			want, decision := -1, 0
			poses := behindTicks(l)
			goesOn := func(d int) bool {
				for tick, p := range poses {
					_, stop := stops[p]
					_, leave := leaves[p]
					if tick <= d && !stop || tick >= d && !leave {
						return false
					}
				}
				return true
			}
			for decision < len(poses) && !goesOn(decision) {
				decision++
			}
			for tick, p := range slices.Backward(poses) {
				_, stop := stops[p]
				_, leave := leaves[p]
				if !stop && !leave {
					want = tick
				}
			}
			is := want < 0 && m.away(p)
			if tick, got, e := Cleared(c, a, f, l); tick != want || got != is || e != api.OK {
				t.Fatalf("Cleared of %v = %d, %v, %d, want %d, %v", l, tick, got, e, want, is)
			}
			d, e := Decision(c, a, f, l)
			if decision == len(poses) && (d != 0 || e != api.ErrNone) || decision < len(poses) && (d != decision || e != api.OK) {
				t.Fatalf("Decision of %v = %d, %d, want %d of %d", l, d, e, decision, len(poses))
			}
			if is {
				yes++
			} else {
				no++
			}
			if e == api.OK {
				decided++
			}
		}
	}
	if yes < 5 || no < 5 || decided < 5 {
		t.Errorf("%d are cleared, %d are not, %d have a decision", yes, no, decided)
	}
}

func TestP3_6And10MoreIsCovered(t *testing.T) {
	r := rand.New(rand.NewSource(3))
	for range 15 {
		c, a, f := random(r)
		b := a
		b.Weight = span(a.Weight.Low, a.Weight.Low+(a.Weight.High-a.Weight.Low)/2)
		b.Temp.High = 10
		strong, long, free := c, f, f
		strong.One = 100
		long.Length = min(40, f.Length+5)
		if len(f.Hindrances) > 0 {
			free.Hindrances = f.Hindrances[1:]
		}
		before := set(c, a, f)
		for i, more := range []*reach{set(c, b, f), set(strong, a, f), set(c, a, long), set(c, a, free)} {
			for x := range before {
				for speed := range before[x] {
					for height, is := range before[x][speed] {
						if is && !more[x][speed][height] && height > 0 {
							t.Fatalf("%d: %d, %d, %d is covered no more", i, x-40, speed, height)
						}
					}
				}
			}
		}
		for _, one := range []bool{false, true} {
			rates, _ := Rates(c, a, one)
			less, _ := Rates(c, b, one)
			for speed := range rates {
				if less[speed] < rates[speed] {
					t.Fatalf("a rate of %d in the smaller air, %d in the whole one", less[speed], rates[speed])
				}
			}
		}
	}
}

func set(c api.Craft, a api.Air, f api.Field) *reach {
	s, _ := prepare(c, a, f)
	return s.reach(s.ended)
}

func TestStrongestCraft(t *testing.T) {
	c := craft()
	c.One, c.Unit, c.Step, c.Top, c.Drop, c.Touch, c.Sink = 100, 1, 1, 6, 3, 6, 3
	c.Rotor.Climb = 1
	for i := range 2 {
		for k := range 2 {
			c.Rotor.Power.Values[i][k] = api.MaxPower
		}
	}
	f := api.Field{Length: 40, Clear: 12, Safe: 6}
	l, e := Depart(c, air(), f)
	if len(l) != 6 || l[5] != pose(21, 6, 12) || l[0] != pose(1, 1, 1) || e != api.OK {
		t.Errorf("Depart = %v, %d", l, e)
	}
	if w, e := Heaviest(c, air(), f, l); w != 1500 || e != api.OK {
		t.Errorf("Heaviest = %d, %d", w, e)
	}
}

func TestTheEndsOfTheWorld(t *testing.T) {
	c := craft()
	c.One = 0
	f := field()
	f.Hindrances[0].At = 40
	if e := Check(c, f); e != api.OK {
		t.Errorf("Check = %d", e)
	}
	if l, e := Steps(craft(), air(), field(), pose(39, 1, 2), true); len(l) == 0 || l[len(l)-1].X != 40 || e != api.OK {
		t.Errorf("Steps to the last place = %v, %d", l, e)
	}
	far := api.Field{Length: 40, Clear: 12, Safe: 6}
	if l, e := Approach(craft(), air(), far, pose(40, 0, 1)); !slices.Equal(l, []api.Pose{pose(40, 0, 0)}) || e != api.OK {
		t.Errorf("Approach at the last place = %v, %d", l, e)
	}
	near := api.Field{Clear: 1, Safe: 0}
	if l, e := Approach(craft(), air(), near, pose(-40, 1, 12)); len(l) == 0 || l[len(l)-1] != pose(0, l[len(l)-1].Speed, 0) || e != api.OK {
		t.Errorf("Approach from the first place = %v, %d", l, e)
	}
	// The pose would be covered and away, but no step leads there.
	strayed := []api.Pose{pose(3, 2, 3)}
	if n, e := Decision(craft(), air(), field(), strayed); n != 0 || e != api.ErrMove {
		t.Errorf("Decision of what is no step = %d, %d", n, e)
	}
	if n, e := Heaviest(craft(), air(), field(), strayed); n != 0 || e != api.ErrNone {
		t.Errorf("Heaviest of what is no step = %d, %d", n, e)
	}
}
