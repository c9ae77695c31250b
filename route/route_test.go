package route

import (
	"cmp"
	"math"
	"math/rand"
	"reflect"
	"slices"
	"testing"

	"swashplate/api"
	"swashplate/engine"
	"swashplate/samples"
	"swashplate/weather"
)

func span(low, high int) api.Span { return api.Span{Low: low, High: high} }

// example is the met M of the document.
func example() api.Met { return samples.Flown() }

func minima() api.Minima { return samples.Limits() }

func legs() []api.Leg { return samples.Net() }

// flight is the flight F of the document.
func flight() api.Flight { return samples.Flight() }

func with(change func(f *api.Flight)) api.Flight {
	f := flight()
	change(&f)
	return f
}

func fuel(n int) api.Flight { return with(func(f *api.Flight) { f.Fuel = n }) }

// lift is a helicopter as in the layers 2 and 3.
func lift() api.Lift { return samples.Lift() }

func TestP5_1Check(t *testing.T) {
	if e := Check(example(), legs(), flight()); e != api.OK {
		t.Errorf("Check = %d", e)
	}
	if e := Check(api.Met{}, []api.Leg{{}}, api.Flight{}); e != api.ErrMet {
		t.Errorf("Check without a met = %d", e)
	}
	for _, net := range [][]api.Leg{{{A: 0, B: 3, Ticks: 1}}, {{A: -1, B: 1, Ticks: 1}}, {{A: 1, B: 1, Ticks: 1}}, {{A: 0, B: 1, Ticks: 0}}, {{A: 0, B: 1, Ticks: 201}}, slices.Repeat(legs(), 11)} {
		if e := Check(example(), net, api.Flight{}); e != api.ErrNet {
			t.Errorf("Check of the net %v = %d", net, e)
		}
	}
	for i, f := range []api.Flight{
		with(func(f *api.Flight) { f.Route = []int{1} }),
		with(func(f *api.Flight) { f.Route = []int{0, 1, 0, 1, 2, 1, 2, 1} }),
		with(func(f *api.Flight) { f.Fuel, f.Reserve, f.Burn = 0, 100000, 100000 }),
		with(func(f *api.Flight) { f.Depart = 1982 }),
	} {
		if e := Check(example(), legs(), f); e != api.OK {
			t.Errorf("Check of the right flight %d = %d", i, e)
		}
	}
	for i, f := range []api.Flight{
		with(func(f *api.Flight) { f.Route = nil }),
		with(func(f *api.Flight) { f.Route = []int{0, 1, 0, 1, 2, 1, 2, 1, 0} }),
		with(func(f *api.Flight) { f.Route = []int{0, 2} }),
		with(func(f *api.Flight) { f.Route = []int{0, 0} }),
		with(func(f *api.Flight) { f.Route = []int{3} }),
		with(func(f *api.Flight) { f.Route = []int{-1} }),
		with(func(f *api.Flight) { f.Depart = -1 }), with(func(f *api.Flight) { f.Depart = 1983 }), with(func(f *api.Flight) { f.Depart = math.MaxInt }),
		with(func(f *api.Flight) { f.Fuel = -1 }), with(func(f *api.Flight) { f.Fuel = 100001 }),
		with(func(f *api.Flight) { f.Reserve = -1 }), with(func(f *api.Flight) { f.Reserve = 100001 }),
		with(func(f *api.Flight) { f.Burn = 0 }), with(func(f *api.Flight) { f.Burn = 100001 }),
	} {
		if e := Check(example(), legs(), f); e != api.ErrFlight {
			t.Errorf("Check of the flight %d = %d", i, e)
		}
	}
}

func TestP5_1Times(t *testing.T) {
	if l, e := Times(example(), legs()); !reflect.DeepEqual(l, [][]int{{0, 10, 18}, {10, 0, 8}, {18, 8, 0}}) || e != api.OK {
		t.Errorf("Times = %v, %d", l, e)
	}
	if l, e := Times(example(), append(legs(), api.Leg{A: 2, B: 1, Ticks: 3})); !reflect.DeepEqual(l, [][]int{{0, 10, 13}, {10, 0, 3}, {13, 3, 0}}) || e != api.OK {
		t.Errorf("Times with two legs = %v, %d", l, e)
	}
	if l, e := Times(example(), legs()[:1]); !reflect.DeepEqual(l, [][]int{{0, 10, -1}, {10, 0, -1}, {-1, -1, 0}}) || e != api.OK {
		t.Errorf("Times of an island = %v, %d", l, e)
	}
	if l, e := Times(api.Met{}, nil); l != nil || e != api.ErrMet {
		t.Errorf("Times without a met = %v, %d", l, e)
	}
	if l, e := Times(example(), []api.Leg{{}}); l != nil || e != api.ErrNet {
		t.Errorf("Times without a net = %v, %d", l, e)
	}
}

func TestP5_1Arrive(t *testing.T) {
	if l, e := Arrive(example(), legs(), flight()); !slices.Equal(l, []int{0, 10, 18}) || e != api.OK {
		t.Errorf("Arrive = %v, %d", l, e)
	}
	f := with(func(f *api.Flight) { f.Route, f.Depart = []int{1, 0, 1}, 7 })
	if l, e := Arrive(example(), append(legs(), api.Leg{A: 1, B: 0, Ticks: 4}), f); !slices.Equal(l, []int{7, 11, 15}) || e != api.OK {
		t.Errorf("Arrive there and back = %v, %d", l, e)
	}
}

func TestP5_2HavensAndBest(t *testing.T) {
	if l, e := Havens(example(), minima(), legs(), flight(), 4); !slices.Equal(l, []api.Haven{{Place: 0, At: 8, Back: true}, {Place: 1, At: 10}}) || e != api.OK {
		t.Errorf("Havens = %v, %d", l, e)
	}
	if l, e := Havens(example(), minima(), legs(), flight(), 5); !slices.Equal(l, []api.Haven{{Place: 0, At: 10, Back: true}, {Place: 1, At: 10}}) || e != api.OK {
		t.Errorf("Havens in the middle = %v, %d", l, e)
	}
	if l, e := Havens(example(), minima(), legs(), flight(), 0); !slices.Equal(l, []api.Haven{{Place: 0}, {Place: 1, At: 10}}) || e != api.OK {
		t.Errorf("Havens at Depart = %v, %d", l, e)
	}
	if h, e := Best(example(), minima(), legs(), flight(), 12); h != (api.Haven{Place: 1, At: 14, Back: true}) || e != api.OK {
		t.Errorf("Best = %v, %d", h, e)
	}
	if h, e := Best(example(), minima(), legs(), flight(), 5); h != (api.Haven{Place: 0, At: 10, Back: true}) || e != api.OK {
		t.Errorf("Best of two = %v, %d", h, e)
	}
	if h, e := Best(example(), minima(), legs(), fuel(39), 5); h != (api.Haven{}) || e != api.ErrNone {
		t.Errorf("Best without fuel = %v, %d", h, e)
	}
	for _, tick := range []int{-1, 19, math.MaxInt, math.MinInt} {
		if l, e := Havens(example(), minima(), legs(), flight(), tick); l != nil || e != api.ErrArg {
			t.Errorf("Havens for %d = %v, %d", tick, l, e)
		}
		if h, e := Best(example(), minima(), legs(), flight(), tick); h != (api.Haven{}) || e != api.ErrArg {
			t.Errorf("Best for %d = %v, %d", tick, h, e)
		}
	}
	late := with(func(f *api.Flight) { f.Depart = 1982 })
	if l, e := Havens(example(), minima(), legs(), late, 1991); !slices.Equal(l, []api.Haven{{Place: 0, At: 2000, Back: true}, {Place: 1, At: 1992}, {Place: 2, At: 2000}}) || e != api.OK {
		t.Errorf("Havens in the last ticks = %v, %d", l, e)
	}
	if l, e := Havens(example(), minima(), legs(), late, 1993); !slices.Equal(l, []api.Haven{{Place: 1, At: 1994, Back: true}, {Place: 2, At: 2000}}) || e != api.OK {
		t.Errorf("Havens behind the last ticks = %v, %d", l, e)
	}
}

func TestP5_2Safe(t *testing.T) {
	for _, c := range []struct {
		f    api.Flight
		tick int
		is   bool
	}{{flight(), 0, true}, {fuel(39), 5, false}, {fuel(72), 0, true}, {fuel(71), 18, false}, {fuel(0), 0, false}, {with(func(f *api.Flight) { f.Route = []int{0} }), 0, true}} {
		if tick, is, e := Safe(example(), minima(), legs(), c.f); tick != c.tick || is != c.is || e != api.OK {
			t.Errorf("Safe of %v = %d, %v, %d", c.f, tick, is, e)
		}
	}
}

func TestP5_3ProofAndProves(t *testing.T) {
	proof, e := Proof(example(), minima(), legs(), flight())
	if len(proof) != 19 || e != api.OK || proof[4] != (api.Haven{Place: 0, At: 8, Back: true}) || proof[18] != (api.Haven{Place: 1, At: 26}) {
		t.Fatalf("Proof = %v, %d", proof, e)
	}
	changed := func(i int, h api.Haven) []api.Haven {
		l := slices.Clone(proof)
		l[i] = h
		return l
	}
	for i, c := range []struct {
		l  []api.Haven
		at int
		e  api.Errno
	}{
		{proof, 0, api.OK},
		{changed(4, api.Haven{Place: 1, At: 10}), 0, api.OK},
		{changed(4, api.Haven{Place: 1, At: 11}), 4, api.ErrProof},
		{changed(4, api.Haven{Place: 1, At: 10, Back: true}), 4, api.ErrProof},
		{changed(0, api.Haven{Place: 2, At: 18}), 0, api.ErrProof},
		{nil, 0, api.ErrProof},
		{proof[:18], 18, api.ErrProof},
		{append(slices.Clone(proof), proof[0]), 19, api.ErrProof},
		{append(changed(18, api.Haven{}), proof[0]), 18, api.ErrProof},
	} {
		if at, e := Proves(example(), minima(), legs(), flight(), c.l); at != c.at || e != c.e {
			t.Errorf("%d: Proves = %d, %d", i, at, e)
		}
	}
	if l, e := Proof(example(), minima(), legs(), fuel(39)); l != nil || e != api.ErrNone {
		t.Errorf("Proof of a flight that is not safe = %v, %d", l, e)
	}
}

func TestP5_4NoReturnAndMiddle(t *testing.T) {
	for _, c := range []struct {
		fuel, want int
		e          api.Errno
	}{{100, 18, api.OK}, {60, 10, api.OK}, {59, 9, api.OK}, {20, 0, api.OK}, {19, 0, api.ErrNone}, {91, 17, api.OK}} {
		if n, e := NoReturn(example(), legs(), fuel(c.fuel)); n != c.want || e != c.e {
			t.Errorf("NoReturn with %d = %d, %d", c.fuel, n, e)
		}
	}
	if n, e := Middle(example(), legs(), flight()); n != 9 || e != api.OK {
		t.Errorf("Middle = %d, %d", n, e)
	}
	if n, e := Middle(example(), legs(), with(func(f *api.Flight) { f.Route, f.Depart = []int{2}, 5 })); n != 5 || e != api.OK {
		t.Errorf("Middle of a place = %d, %d", n, e)
	}
	if n, e := Middle(example(), legs(), with(func(f *api.Flight) { f.Route = []int{0, 1, 0} })); n != 0 || e != api.OK {
		t.Errorf("Middle there and back = %d, %d", n, e)
	}
	// It comes back to where it began: the last tick counts, not the first gap.
	if n, e := NoReturn(example(), legs(), with(func(f *api.Flight) { f.Route, f.Fuel = []int{0, 1, 2, 1, 0}, 92 })); n != 36 || e != api.OK {
		t.Errorf("NoReturn there and back = %d, %d", n, e)
	}
	late := with(func(f *api.Flight) { f.Depart = 1982 })
	if n, e := NoReturn(example(), legs(), late); n != 2000 || e != api.OK {
		t.Errorf("NoReturn in the last ticks = %d, %d", n, e)
	}
}

func TestP5_4LeastAndSoonest(t *testing.T) {
	if n, e := Least(example(), minima(), legs(), fuel(0)); n != 72 || e != api.OK {
		t.Errorf("Least = %d, %d", n, e)
	}
	if n, e := Least(example(), minima(), legs(), with(func(f *api.Flight) { f.Burn, f.Reserve = 1, 99974 })); n != 100000 || e != api.OK {
		t.Errorf("Least of very much = %d, %d", n, e)
	}
	if n, e := Least(example(), minima(), legs(), with(func(f *api.Flight) { f.Burn, f.Reserve = 1, 99975 })); n != 0 || e != api.ErrNone {
		t.Errorf("Least of too much = %d, %d", n, e)
	}
	if n, e := Least(example(), api.Minima{See: 20000}, legs(), flight()); n != 0 || e != api.ErrNone {
		t.Errorf("Least without a place = %d, %d", n, e)
	}
	for _, c := range []struct {
		f          api.Flight
		last, want int
		e          api.Errno
	}{
		{fuel(71), 11, 0, api.ErrNone}, {fuel(71), 12, 12, api.OK}, {fuel(71), 20, 12, api.OK}, {flight(), 0, 0, api.OK},
		{flight(), -1, 0, api.ErrArg}, {flight(), 2001, 0, api.ErrArg}, {with(func(f *api.Flight) { f.Depart = 5 }), 4, 0, api.ErrArg},
		{with(func(f *api.Flight) { f.Depart, f.Fuel = 1970, 55 }), 2000, 0, api.ErrNone},
	} {
		if n, e := Soonest(example(), minima(), legs(), c.f, c.last); n != c.want || e != c.e {
			t.Errorf("Soonest of %v with %d = %d, %d", c.f, c.last, n, e)
		}
	}
}

func TestP5_5Route(t *testing.T) {
	if l, e := Route(example(), minima(), legs(), flight(), 2); !slices.Equal(l, []int{0, 1, 2}) || e != api.OK {
		t.Errorf("Route = %v, %d", l, e)
	}
	if l, e := Route(example(), minima(), legs(), fuel(39), 2); l != nil || e != api.ErrNone {
		t.Errorf("Route without fuel = %v, %d", l, e)
	}
	if l, e := Route(example(), minima(), legs(), flight(), 0); !slices.Equal(l, []int{0}) || e != api.OK {
		t.Errorf("Route to where it is = %v, %d", l, e)
	}
	for _, to := range []int{-1, 3, math.MaxInt} {
		if l, e := Route(example(), minima(), legs(), flight(), to); l != nil || e != api.ErrArg {
			t.Errorf("Route to %d = %v, %d", to, l, e)
		}
	}
	clear := api.Met{Places: 5, Any: example().Any}
	rich := api.Flight{Route: []int{0}, Fuel: 100000, Burn: 1}
	for i, c := range []struct {
		net  []api.Leg
		want []int
	}{
		{[]api.Leg{{A: 0, B: 4, Ticks: 9}, {A: 0, B: 3, Ticks: 4}, {A: 3, B: 4, Ticks: 4}}, []int{0, 3, 4}},
		{[]api.Leg{{A: 0, B: 4, Ticks: 8}, {A: 0, B: 3, Ticks: 4}, {A: 3, B: 4, Ticks: 4}}, []int{0, 4}},
		{[]api.Leg{{A: 0, B: 3, Ticks: 4}, {A: 3, B: 4, Ticks: 4}, {A: 0, B: 1, Ticks: 4}, {A: 1, B: 4, Ticks: 4}}, []int{0, 1, 4}},
		{[]api.Leg{{A: 0, B: 3, Ticks: 2}, {A: 3, B: 2, Ticks: 3}, {A: 2, B: 4, Ticks: 3}, {A: 0, B: 1, Ticks: 4}, {A: 1, B: 4, Ticks: 4}}, []int{0, 1, 4}},
	} {
		if l, e := Route(clear, minima(), c.net, rich, 4); !slices.Equal(l, c.want) || e != api.OK {
			t.Errorf("%d: Route = %v, %d", i, l, e)
		}
	}
}

func TestP5_5BurnAndPayload(t *testing.T) {
	if n, e := Burn(lift(), 50); n != 75 || e != api.OK {
		t.Errorf("Burn = %d, %d", n, e)
	}
	for _, speed := range []int{-1, 101, math.MaxInt} {
		if n, e := Burn(lift(), speed); n != 0 || e != api.ErrArg {
			t.Errorf("Burn at %d = %d, %d", speed, n, e)
		}
	}
	if n, e := Burn(api.Lift{}, 50); n != 0 || e != api.ErrRotor {
		t.Errorf("Burn without a rotor = %d, %d", n, e)
	}
	if n, e := Payload(lift(), example(), minima(), legs(), flight()); n != 1500-1100-72 || e != api.OK {
		t.Errorf("Payload = %d, %d", n, e)
	}
	for i, c := range []struct {
		change func(x *api.Lift, m *api.Met, f *api.Flight)
		want   int
		e      api.Errno
	}{
		{func(x *api.Lift, m *api.Met, f *api.Flight) { x.Empty = 1428 }, 0, api.OK},
		{func(x *api.Lift, m *api.Met, f *api.Flight) { x.Empty = 1429 }, 0, api.ErrNone},
		{func(x *api.Lift, m *api.Met, f *api.Flight) { x.Empty = 0 }, 1428, api.OK},
		{func(x *api.Lift, m *api.Met, f *api.Flight) { x.Empty = -1; m.Places = 0 }, 0, api.ErrArg},
		{func(x *api.Lift, m *api.Met, f *api.Flight) { x.Empty = 1000001; m.Places = 0 }, 0, api.ErrArg},
		{func(x *api.Lift, m *api.Met, f *api.Flight) { m.Places = 0 }, 0, api.ErrMet},
		{func(x *api.Lift, m *api.Met, f *api.Flight) { f.Burn = 0 }, 0, api.ErrFlight},
		{func(x *api.Lift, m *api.Met, f *api.Flight) { x.Craft.Top = 0; x.Empty = -1 }, 0, api.ErrCraft},
		{func(x *api.Lift, m *api.Met, f *api.Flight) { x.Departure = x.Departure[:1]; x.Empty = -1 }, 0, api.ErrNone},
	} {
		x, m, f := lift(), example(), flight()
		c.change(&x, &m, &f)
		if n, e := Payload(x, m, minima(), legs(), f); n != c.want || e != c.e {
			t.Errorf("%d: Payload = %d, %d", i, n, e)
		}
	}
}

func TestErrorsInTheirOrder(t *testing.T) {
	type call func(m api.Met, l api.Minima, net []api.Leg, f api.Flight) api.Errno
	blind := map[string]call{
		"Arrive": func(m api.Met, l api.Minima, net []api.Leg, f api.Flight) api.Errno {
			_, e := Arrive(m, net, f)
			return e
		},
		"NoReturn": func(m api.Met, l api.Minima, net []api.Leg, f api.Flight) api.Errno {
			_, e := NoReturn(m, net, f)
			return e
		},
		"Middle": func(m api.Met, l api.Minima, net []api.Leg, f api.Flight) api.Errno {
			_, e := Middle(m, net, f)
			return e
		},
	}
	seeing := map[string]call{
		"Havens": func(m api.Met, l api.Minima, net []api.Leg, f api.Flight) api.Errno {
			_, e := Havens(m, l, net, f, -1)
			return e
		},
		"Best": func(m api.Met, l api.Minima, net []api.Leg, f api.Flight) api.Errno {
			_, e := Best(m, l, net, f, -1)
			return e
		},
		"Safe": func(m api.Met, l api.Minima, net []api.Leg, f api.Flight) api.Errno {
			_, _, e := Safe(m, l, net, f)
			return e
		},
		"Proof": func(m api.Met, l api.Minima, net []api.Leg, f api.Flight) api.Errno {
			_, e := Proof(m, l, net, f)
			return e
		},
		"Proves": func(m api.Met, l api.Minima, net []api.Leg, f api.Flight) api.Errno {
			at, e := Proves(m, l, net, f, make([]api.Haven, 3))
			if e != api.ErrProof && at != 0 {
				t.Errorf("Proves has %d with %d", at, e)
			}
			return e
		},
		"Least": func(m api.Met, l api.Minima, net []api.Leg, f api.Flight) api.Errno {
			_, e := Least(m, l, net, f)
			return e
		},
		"Soonest": func(m api.Met, l api.Minima, net []api.Leg, f api.Flight) api.Errno {
			_, e := Soonest(m, l, net, f, -1)
			return e
		},
		"Route": func(m api.Met, l api.Minima, net []api.Leg, f api.Flight) api.Errno {
			_, e := Route(m, l, net, f, -1)
			return e
		},
	}
	wrong := []api.Leg{{A: 1, B: 1, Ticks: 1}}
	for i, calls := range []map[string]call{blind, seeing} {
		for name, f := range calls {
			if e := f(api.Met{}, api.Minima{Wind: -1}, wrong, api.Flight{}); e != api.ErrMet {
				t.Errorf("%s: %d", name, e)
			}
			want := []api.Errno{api.ErrNet, api.ErrMinima}[i]
			if e := f(example(), api.Minima{Wind: -1}, wrong, api.Flight{}); e != want {
				t.Errorf("%s: %d", name, e)
			}
			if e := f(example(), minima(), wrong, api.Flight{}); e != api.ErrNet {
				t.Errorf("%s: %d", name, e)
			}
			if e := f(example(), minima(), legs(), api.Flight{}); e != api.ErrFlight {
				t.Errorf("%s: %d", name, e)
			}
		}
	}
}

// random is any met, net and flight over few places, in few ticks.
func random(r *rand.Rand) (api.Met, api.Minima, []api.Leg, api.Flight) {
	see := func() api.Span {
		if r.Intn(3) > 0 {
			return span(5, 9)
		}
		return span(1, 9)
	}
	m := api.Met{Places: 2 + r.Intn(4), Any: api.Sky{See: span(5, 9)}}
	for range 2 + r.Intn(12) {
		from := r.Intn(30)
		m.Forecasts = append(m.Forecasts, api.Forecast{Place: r.Intn(m.Places), From: from, To: from + 1 + r.Intn(20), Issued: r.Intn(5), Sky: api.Sky{See: see()}})
		if r.Intn(2) == 0 {
			m.Forecasts[len(m.Forecasts)-1].Sky.See = span(1, 2)
		}
	}
	var net []api.Leg
	for range 1 + r.Intn(7) {
		a := r.Intn(m.Places)
		net = append(net, api.Leg{A: a, B: (a + 1 + r.Intn(m.Places-1)) % m.Places, Ticks: 1 + r.Intn(7)})
	}
	f := api.Flight{Depart: r.Intn(5), Fuel: 10 + r.Intn(40), Burn: 1 + r.Intn(3), Reserve: r.Intn(10)}
	at := net[0].A
	f.Route = []int{at}
	for range r.Intn(4) {
		for _, l := range net {
			if l.A == at || l.B == at {
				at = l.A + l.B - at
				f.Route = append(f.Route, at)
				break
			}
		}
		r.Shuffle(len(net), func(i, k int) { net[i], net[k] = net[k], net[i] })
	}
	return m, api.Minima{See: 5}, net, f
}

// far is what there is no time to.
const far = 1 << 40

// model follows the text of the document.
type model struct {
	m      api.Met
	l      api.Minima
	net    []api.Leg
	f      api.Flight
	arrive []int
}

func (x model) leg(a, b int) int {
	n := far
	for _, l := range x.net {
		if l.A == a && l.B == b || l.A == b && l.B == a {
			n = min(n, l.Ticks)
		}
	}
	return n
}

func (x model) time(a, b int) int {
	d := make([]int, x.m.Places)
	for i := range d {
		d[i] = far
	}
	d[a] = 0
	for range x.m.Places {
		for i := range d {
			for k := range d {
				d[k] = min(d[k], d[i]+x.leg(i, k))
			}
		}
	}
	return d[b]
}

func newModel(m api.Met, l api.Minima, net []api.Leg, f api.Flight) model {
	x := model{m, l, net, f, []int{f.Depart}}
	for i := 1; i < len(f.Route); i++ {
		x.arrive = append(x.arrive, x.arrive[i-1]+x.leg(f.Route[i-1], f.Route[i]))
	}
	return x
}

func (x model) last() int { return x.arrive[len(x.arrive)-1] }

func (x model) at(tick, place int) api.Haven {
	for i, n := range x.arrive {
		if n == tick {
			return api.Haven{Place: place, At: tick + x.time(x.f.Route[i], place)}
		}
	}
	for i := 1; ; i++ {
		if x.arrive[i] > tick {
			on := x.arrive[i] + x.time(x.f.Route[i], place)
			back := tick + (tick - x.arrive[i-1]) + x.time(x.f.Route[i-1], place)
			if back < on {
				return api.Haven{Place: place, At: back, Back: true}
			}
			return api.Haven{Place: place, At: on}
		}
	}
}

func (x model) havens(tick, fuel int) []api.Haven {
	var l []api.Haven
	for place := range x.m.Places {
		h := x.at(tick, place)
		if h.At > api.MaxTime || fuel-x.f.Burn*(h.At-x.f.Depart) < x.f.Reserve {
			continue
		}
		if is, _ := weather.Open(x.m, x.l, place, h.At); is {
			l = append(l, h)
		}
	}
	return l
}

func (x model) safe(fuel int) (int, bool) {
	for tick := x.f.Depart; tick <= x.last(); tick++ {
		if x.havens(tick, fuel) == nil {
			return tick, false
		}
	}
	return 0, true
}

func TestP5_6To10AllTicks(t *testing.T) {
	r := rand.New(rand.NewSource(1))
	safe, unsafe := 0, 0
	for range 150 {
		m, l, net, f := random(r)
		x := newModel(m, l, net, f)
		times, e := Times(m, net)
		for a := range m.Places {
			for b := range m.Places {
				if want := x.time(a, b); times[a][b] != want && (want < far || times[a][b] != -1) || times[a][b] != times[b][a] || e != api.OK {
					t.Fatalf("Times of %v = %v, %d", net, times, e)
				}
			}
		}
		if arrive, e := Arrive(m, net, f); !slices.Equal(arrive, x.arrive) || e != api.OK {
			t.Fatalf("Arrive = %v, %d, want %v", arrive, e, x.arrive)
		}
		var proof []api.Haven
		returns, middle := -1, -1
		for tick := f.Depart; tick <= x.last(); tick++ {
			want := x.havens(tick, f.Fuel)
			if havens, e := Havens(m, l, net, f, tick); !slices.Equal(havens, want) || e != api.OK {
				t.Fatalf("Havens for %d = %v, %d, want %v", tick, havens, e, want)
			}
			if want != nil {
				best := slices.MinFunc(want, func(a, b api.Haven) int { return cmp.Compare(a.At, b.At) })
				if h, e := Best(m, l, net, f, tick); h != best || e != api.OK {
					t.Fatalf("Best for %d = %v, %d, want %v", tick, h, e, best)
				}
				proof = append(proof, best)
			}
			first, end := x.at(tick, f.Route[0]).At, x.at(tick, f.Route[len(f.Route)-1]).At
			if f.Fuel-f.Burn*(first-f.Depart) >= f.Reserve {
				returns = tick
			}
			if middle < 0 && first >= end {
				middle = tick
			}
		}
		if n, e := NoReturn(m, net, f); (returns >= 0) != (e == api.OK) || e == api.OK && n != returns || e != api.OK && e != api.ErrNone {
			t.Fatalf("NoReturn = %d, %d, want %d", n, e, returns)
		}
		if n, e := Middle(m, net, f); n != middle || e != api.OK {
			t.Fatalf("Middle = %d, %d, want %d", n, e, middle)
		}
		wantTick, wantSafe := x.safe(f.Fuel)
		if tick, is, e := Safe(m, l, net, f); tick != wantTick || is != wantSafe || e != api.OK {
			t.Fatalf("Safe = %d, %v, %d", tick, is, e)
		}
		got, e := Proof(m, l, net, f)
		if wantSafe {
			safe++
			if at, pe := Proves(m, l, net, f, proof); !slices.Equal(got, proof) || e != api.OK || at != 0 || pe != api.OK {
				t.Fatalf("Proof = %v, %d, Proves = %d, %d", got, e, at, pe)
			}
		} else {
			unsafe++
			if got != nil || e != api.ErrNone {
				t.Fatalf("Proof = %v, %d", got, e)
			}
		}
		testLeast(t, x)
		testRoute(t, r, x)
	}
	if safe < 20 || unsafe < 20 {
		t.Errorf("%d flights are safe, %d are not", safe, unsafe)
	}
}

func testLeast(t *testing.T, x model) {
	want := 0
	for want < 300 {
		if _, is := x.safe(want); is {
			break
		}
		want++
	}
	n, e := Least(x.m, x.l, x.net, x.f)
	if want < 300 && (n != want || e != api.OK) || want == 300 && (n != 0 || e != api.ErrNone) {
		t.Fatalf("Least = %d, %d, want %d", n, e, want)
	}
	first := 0
	for first < 20 {
		y := x.f
		y.Depart = x.f.Depart + first
		if _, is := newModel(x.m, x.l, x.net, y).safe(y.Fuel); is {
			break
		}
		first++
	}
	n, e = Soonest(x.m, x.l, x.net, x.f, x.f.Depart+19)
	if first < 20 && (n != x.f.Depart+first || e != api.OK) || first == 20 && (n != 0 || e != api.ErrNone) {
		t.Fatalf("Soonest = %d, %d, want %d", n, e, x.f.Depart+first)
	}
}

func testRoute(t *testing.T, r *rand.Rand, x model) {
	to := r.Intn(x.m.Places)
	var routes [][]int
	var extend func(l []int)
	extend = func(l []int) {
		if l[len(l)-1] == to {
			y := x.f
			y.Route = l
			if _, is := newModel(x.m, x.l, x.net, y).safe(y.Fuel); is {
				routes = append(routes, l)
			}
			return
		}
		for next := range x.m.Places {
			if x.leg(l[len(l)-1], next) < far && !slices.Contains(l, next) {
				extend(append(slices.Clone(l), next))
			}
		}
	}
	extend(x.f.Route[:1:1])
	slices.SortFunc(routes, func(a, b []int) int {
		y, z := x.f, x.f
		y.Route, z.Route = a, b
		return cmp.Or(cmp.Compare(newModel(x.m, x.l, x.net, y).last(), newModel(x.m, x.l, x.net, z).last()), cmp.Compare(len(a), len(b)), slices.Compare(a, b))
	})
	l, e := Route(x.m, x.l, x.net, x.f, to)
	if len(routes) == 0 && (l != nil || e != api.ErrNone) || len(routes) > 0 && (!slices.Equal(l, routes[0]) || e != api.OK) {
		t.Fatalf("Route to %d = %v, %d, want %v", to, l, e, routes)
	}
}

func TestP5_8And9WhatIsSafeStaysSafe(t *testing.T) {
	r := rand.New(rand.NewSource(2))
	for range 100 {
		m, l, net, f := random(r)
		if _, is, _ := Safe(m, l, net, f); !is {
			continue
		}
		rich, poor, weak := f, f, l
		rich.Fuel++
		poor.Reserve = max(0, f.Reserve-1)
		weak.See--
		cut := m
		cut.Forecasts = append(slices.Clone(m.Forecasts), api.Forecast{Place: f.Route[0], From: 0, To: 2000, Issued: 9, Sky: api.Sky{See: span(0, 9)}})
		for i, is := range []bool{isSafe(m, l, net, rich), isSafe(m, l, net, poor), isSafe(m, weak, net, f), isSafe(cut, l, net, f)} {
			if !is {
				t.Fatalf("%d: what was safe is not", i)
			}
		}
	}
}

func isSafe(m api.Met, l api.Minima, net []api.Leg, f api.Flight) bool {
	_, is, e := Safe(m, l, net, f)
	return is && e == api.OK
}

func TestP5_7TimesOverPlaces(t *testing.T) {
	r := rand.New(rand.NewSource(3))
	for range 100 {
		m, _, net, _ := random(r)
		times, _ := Times(m, net)
		for a := range times {
			for b := range times {
				for c := range times {
					if times[a][b] >= 0 && times[b][c] >= 0 && (times[a][c] < 0 || times[a][c] > times[a][b]+times[b][c]) {
						t.Fatalf("Times of %v = %v", net, times)
					}
				}
			}
		}
	}
}

func TestP5_11TheWeightIsCleared(t *testing.T) {
	x := lift()
	payload, e := Payload(x, example(), minima(), legs(), flight())
	if e != api.OK {
		t.Fatal(e)
	}
	least, _ := Least(example(), minima(), legs(), flight())
	a := x.Air
	a.Weight.High = payload + x.Empty + least
	if _, is, e := engine.Cleared(x.Craft, a, x.Field, x.Departure); !is || e != api.OK {
		t.Errorf("Cleared with all weight = %v, %d", is, e)
	}
}

// The longest flights between most places are still judged quickly.
func TestLongFlights(t *testing.T) {
	m := api.Met{Places: 8, Any: example().Any}
	var net []api.Leg
	for i := range 20 {
		net = append(net, api.Leg{A: i % 8, B: (i + 1 + i/8) % 8, Ticks: 200 - i})
	}
	f := api.Flight{Route: []int{0, 1, 0, 1, 0, 1, 0, 1}, Fuel: 1999, Burn: 1, Reserve: 1400}
	if n, e := Soonest(m, minima(), net, f, 2000); e == api.OK && n > 600 {
		t.Errorf("Soonest = %d, %d", n, e)
	}
	if _, e := Route(m, minima(), net, f, 7); e != api.OK && e != api.ErrNone {
		t.Errorf("Route: %d", e)
	}
}

func TestTheFirstAndTheLastTicks(t *testing.T) {
	fog := example().Any
	fog.See = span(1000, 2000)
	m := api.Met{Places: 1, Any: example().Any, Forecasts: []api.Forecast{{From: 0, To: 1, Sky: fog}, {From: 1998, To: 1999, Sky: fog}}}
	f := api.Flight{Route: []int{0}, Fuel: 9, Burn: 1}
	for _, c := range []struct {
		depart int
		want   bool
	}{{0, false}, {1, true}, {1997, true}, {1998, false}, {1999, true}, {2000, true}} {
		f.Depart = c.depart
		if _, is, e := Safe(m, minima(), nil, f); is != c.want || e != api.OK {
			t.Errorf("Safe in %d = %v, %d", c.depart, is, e)
		}
	}
	m.Forecasts[1] = api.Forecast{From: 1999, To: 2000, Sky: fog}
	for _, c := range []struct {
		depart int
		want   bool
	}{{1998, true}, {1999, false}, {2000, true}} {
		f.Depart = c.depart
		if _, is, e := Safe(m, minima(), nil, f); is != c.want || e != api.OK {
			t.Errorf("Safe in %d = %v, %d", c.depart, is, e)
		}
	}
	f.Depart = 1999
	if n, e := Soonest(m, minima(), nil, f, 2000); n != 2000 || e != api.OK {
		t.Errorf("Soonest in the last ticks = %d, %d", n, e)
	}
	if e := Check(m, slices.Repeat(legs()[:1], 21), f); e != api.ErrNet {
		t.Errorf("Check of 21 legs = %d", e)
	}
	if e := Check(example(), slices.Repeat(legs()[:1], 21), flight()); e != api.ErrNet {
		t.Errorf("Check of 21 right legs = %d", e)
	}
	if e := Check(example(), slices.Repeat(legs(), 10), flight()); e != api.OK {
		t.Errorf("Check of 20 legs = %d", e)
	}
	x := lift()
	x.Empty = 1000000
	if n, e := Payload(x, example(), minima(), legs(), flight()); n != 0 || e != api.ErrNone {
		t.Errorf("Payload of the heaviest = %d, %d", n, e)
	}
}
