package weather

import (
	"math"
	"math/rand"
	"slices"
	"testing"

	"swashplate/api"
	"swashplate/samples"
)

func sky(wind, see, ceiling api.Span, wild bool) api.Sky {
	return api.Sky{Wind: wind, See: see, Ceiling: ceiling, Ice: wild, Storm: wild}
}

// example is the met of the document.
func example() api.Met { return samples.Met() }

func minima() api.Minima { return samples.Minima() }

func TestP4_1Check(t *testing.T) {
	great := example()
	great.Places = 8
	great.Wind, great.See, great.Ceiling = 20000, 20000, 0
	great.Any = sky(span(0, 300), span(0, 20000), span(20000, 20000), false)
	great.Forecasts = slices.Repeat([]api.Forecast{{Place: 7, From: 1999, To: 2000, Issued: 2000, Sky: great.Any}}, 40)
	great.Sights = slices.Repeat([]api.Sight{{Place: 7, At: 2000, Now: api.Weather{Wind: 300, See: 20000, Ceiling: 20000}}}, 20)
	for i, m := range []api.Met{example(), great, {Places: 1}} {
		if e := Check(m); e != api.OK {
			t.Errorf("%d: %d", i, e)
		}
	}
	for i, change := range []func(m *api.Met){
		func(m *api.Met) { m.Places = 0 }, func(m *api.Met) { m.Places = 9 }, func(m *api.Met) { m.Places = math.MinInt },
		func(m *api.Met) { m.Any.Wind = span(1, 0) }, func(m *api.Met) { m.Any.Wind = span(0, 301) }, func(m *api.Met) { m.Any.Wind = span(-1, 0) },
		func(m *api.Met) { m.Any.See = span(0, 20001) }, func(m *api.Met) { m.Any.See = span(-1, 0) }, func(m *api.Met) { m.Any.Ceiling = span(0, 20001) },
		func(m *api.Met) { m.Any.Ceiling = span(5, 4) },
		func(m *api.Met) { m.Wind = -1 }, func(m *api.Met) { m.See = 20001 }, func(m *api.Met) { m.Ceiling = -1 }, func(m *api.Met) { m.Wind = 20001 },
		func(m *api.Met) { m.Forecasts = slices.Repeat(m.Forecasts[:1], 41) },
		func(m *api.Met) { m.Forecasts[1].Place = 2 }, func(m *api.Met) { m.Forecasts[1].Place = -1 },
		func(m *api.Met) { m.Forecasts[1].From = -1 }, func(m *api.Met) { m.Forecasts[1].From = 20 }, func(m *api.Met) { m.Forecasts[1].To = 2001 },
		func(m *api.Met) { m.Forecasts[1].Issued = -1 }, func(m *api.Met) { m.Forecasts[1].Issued = 2001 },
		func(m *api.Met) { m.Forecasts[1].Sky.See = span(2, 1) }, func(m *api.Met) { m.Forecasts[0].Sky.Wind.High = 301 },
		func(m *api.Met) { m.Sights = slices.Repeat(m.Sights, 21) },
		func(m *api.Met) { m.Sights[0].Place = 2 }, func(m *api.Met) { m.Sights[0].At = -1 }, func(m *api.Met) { m.Sights[0].At = 2001 },
		func(m *api.Met) { m.Sights[0].Now.Wind = 301 }, func(m *api.Met) { m.Sights[0].Now.See = -1 }, func(m *api.Met) { m.Sights[0].Now.Ceiling = 20001 },
	} {
		m := example()
		change(&m)
		if e := Check(m); e != api.ErrMet {
			t.Errorf("%d: %d", i, e)
		}
	}
}

func TestP4_2May(t *testing.T) {
	for _, c := range []struct {
		place, tick int
		want        api.Sky
	}{
		{0, 5, sky(span(10, 30), span(4000, 8000), span(500, 2000), false)},
		{0, 12, sky(span(25, 30), span(1000, 3000), span(500, 900), false)},
		{0, 19, sky(span(25, 30), span(1000, 3000), span(500, 900), false)},
		{0, 20, example().Any},
		{1, 3, example().Any},
		{1, 4, sky(span(20, 20), span(6000, 6000), span(1500, 1500), false)},
		{1, 6, sky(span(10, 30), span(4000, 8000), span(1100, 1900), true)},
		{1, 2000, example().Any},
	} {
		if s, e := May(example(), c.place, c.tick); s != c.want || e != api.OK {
			t.Errorf("May at %d in %d = %v, %d", c.place, c.tick, s, e)
		}
	}
}

// Forecasts cut in the order in which they were issued, and of the list; what comes last replaces what it contradicts.
func TestForecastsInOrder(t *testing.T) {
	wind := func(issued, low, high int, ice bool) api.Forecast {
		return api.Forecast{From: 0, To: 5, Issued: issued, Sky: api.Sky{Wind: span(low, high), See: span(0, 9), Ceiling: span(0, 9), Ice: ice, Storm: !ice}}
	}
	for i, c := range []struct {
		l       []api.Forecast
		want    api.Span
		strange []int
	}{
		{[]api.Forecast{wind(2, 10, 20, true), wind(1, 30, 40, true)}, span(10, 20), []int{0}},
		{[]api.Forecast{wind(1, 30, 40, true), wind(2, 10, 20, true)}, span(10, 20), []int{1}},
		{[]api.Forecast{wind(1, 10, 20, true), wind(1, 30, 40, true)}, span(30, 40), []int{1}},
		{[]api.Forecast{wind(1, 10, 20, true), wind(1, 15, 40, true)}, span(15, 20), nil},
		{[]api.Forecast{wind(3, 1, 2, true), wind(2, 3, 4, true), wind(1, 5, 6, true)}, span(1, 2), []int{0, 1}},
		{[]api.Forecast{wind(1, 20, 30, true), wind(2, 10, 20, true)}, span(20, 20), nil},
		{[]api.Forecast{wind(0, 61, 70, true)}, span(61, 70), []int{0}},
	} {
		m := example()
		m.Forecasts = c.l
		s, e := May(m, 0, 0)
		if s.Wind != c.want || !s.Ice || s.Storm || e != api.OK {
			t.Errorf("%d: May = %v, %d", i, s, e)
		}
		if l, e := Strange(m, 0, 0); !slices.Equal(l, c.strange) || e != api.OK {
			t.Errorf("%d: Strange = %v, %d", i, l, e)
		}
	}
	m := example()
	m.Forecasts = []api.Forecast{wind(1, 0, 1, true), wind(2, 0, 1, false)}
	if s, _ := May(m, 0, 0); s.Ice || s.Storm {
		t.Errorf("ice or storm that no forecast allows both: %v", s)
	}
	m.Forecasts[0].Sky.See, m.Forecasts[1].Sky.Ceiling = span(11000, 12000), span(4000, 5000)
	if l, _ := Strange(m, 0, 0); !slices.Equal(l, []int{0, 1}) {
		t.Errorf("Strange by visibility and ceiling = %v", l)
	}
}

func TestSights(t *testing.T) {
	m := api.Met{Places: 1, Any: sky(span(0, 300), span(0, 20000), span(0, 20000), false), Wind: 10, See: 1000, Ceiling: 300}
	storm := api.Weather{Wind: 295, See: 500, Ceiling: 19900, Storm: true}
	calm := api.Weather{Wind: 2, See: 20000, Ceiling: 100}
	m.Sights = []api.Sight{{At: 7, Now: storm}}
	for _, c := range []struct {
		tick int
		want api.Sky
	}{
		{6, m.Any},
		{7, api.Sky{Wind: span(295, 295), See: span(500, 500), Ceiling: span(19900, 19900), Storm: true}},
		{8, sky(span(285, 300), span(0, 1500), span(19600, 20000), false)},
		{9, sky(span(275, 300), span(0, 2500), span(19300, 20000), false)},
	} {
		if s, e := May(m, 0, c.tick); s != c.want || e != api.OK {
			t.Errorf("May in %d = %v, %d", c.tick, s, e)
		}
	}
	m.Sights = []api.Sight{{At: 7, Now: storm}, {At: 7, Now: calm}, {At: 5, Now: storm}}
	if s, _ := May(m, 0, 7); s != sky(span(2, 2), span(20000, 20000), span(100, 100), false) {
		t.Errorf("May in the tick of two sights = %v", s)
	}
	if s, _ := May(m, 0, 8); s != sky(span(0, 12), span(19000, 20000), span(0, 400), false) {
		t.Errorf("May behind two sights = %v", s)
	}
	if s, _ := May(m, 0, 6); s != sky(span(285, 300), span(0, 1500), span(19600, 20000), false) {
		t.Errorf("May behind the first sight = %v", s)
	}
}

func TestP4_3Hull(t *testing.T) {
	if s, e := Hull(example(), 0, 9, 11); s != sky(span(10, 30), span(1000, 8000), span(500, 2000), false) || e != api.OK {
		t.Errorf("Hull = %v, %d", s, e)
	}
	if s, e := Hull(example(), 0, 19, 21); s != example().Any || e != api.OK {
		t.Errorf("Hull with ice in one tick = %v, %d", s, e)
	}
	if s, e := Hull(example(), 1, 4, 5); s != sky(span(20, 20), span(6000, 6000), span(1500, 1500), false) || e != api.OK {
		t.Errorf("Hull of a tick = %v, %d", s, e)
	}
}

func TestP4_4Strange(t *testing.T) {
	for _, c := range []struct {
		place, tick int
		want        []int
	}{{0, 12, []int{1}}, {0, 5, nil}, {0, 20, nil}, {1, 12, nil}} {
		if l, e := Strange(example(), c.place, c.tick); !slices.Equal(l, c.want) || e != api.OK {
			t.Errorf("Strange at %d in %d = %v, %d", c.place, c.tick, l, e)
		}
	}
}

func TestP4_5OpenAndPerhaps(t *testing.T) {
	for _, c := range []struct {
		place, tick   int
		open, perhaps bool
	}{{0, 5, true, true}, {0, 12, false, true}, {1, 4, true, true}, {1, 6, false, true}, {1, 0, false, true}} {
		if is, e := Open(example(), minima(), c.place, c.tick); is != c.open || e != api.OK {
			t.Errorf("Open at %d in %d = %v, %d", c.place, c.tick, is, e)
		}
		if is, e := Perhaps(example(), minima(), c.place, c.tick); is != c.perhaps || e != api.OK {
			t.Errorf("Perhaps at %d in %d = %v, %d", c.place, c.tick, is, e)
		}
	}
	any := sky(span(10, 20), span(30, 40), span(50, 60), false)
	icy, stormy := any, any
	icy.Ice, stormy.Storm = true, true
	for i, c := range []struct {
		s             api.Sky
		l             api.Minima
		open, perhaps bool
	}{
		{any, api.Minima{Wind: 20, See: 30, Ceiling: 50}, true, true},
		{any, api.Minima{Wind: 19, See: 30, Ceiling: 50}, false, true}, {any, api.Minima{Wind: 10, See: 30, Ceiling: 50}, false, true}, {any, api.Minima{Wind: 9, See: 30, Ceiling: 50}, false, false},
		{any, api.Minima{Wind: 20, See: 31, Ceiling: 50}, false, true}, {any, api.Minima{Wind: 20, See: 40, Ceiling: 50}, false, true}, {any, api.Minima{Wind: 20, See: 41, Ceiling: 50}, false, false},
		{any, api.Minima{Wind: 20, See: 30, Ceiling: 51}, false, true}, {any, api.Minima{Wind: 20, See: 30, Ceiling: 60}, false, true}, {any, api.Minima{Wind: 20, See: 30, Ceiling: 61}, false, false},
		{icy, api.Minima{Wind: 20, See: 30, Ceiling: 50, Storm: true}, false, true}, {icy, api.Minima{Wind: 20, See: 30, Ceiling: 50, Ice: true}, true, true},
		{stormy, api.Minima{Wind: 20, See: 30, Ceiling: 50, Ice: true}, false, true}, {stormy, api.Minima{Wind: 20, See: 30, Ceiling: 50, Storm: true}, true, true},
	} {
		m := api.Met{Places: 1, Any: c.s}
		if is, e := Open(m, c.l, 0, 0); is != c.open || e != api.OK {
			t.Errorf("%d: Open = %v, %d", i, is, e)
		}
		if is, e := Perhaps(m, c.l, 0, 0); is != c.perhaps || e != api.OK {
			t.Errorf("%d: Perhaps = %v, %d", i, is, e)
		}
	}
}

func TestP4_6And7WindowsAndFirst(t *testing.T) {
	if l, e := Windows(example(), minima(), 0, 0, 20); !slices.Equal(l, []api.Span{span(0, 9)}) || e != api.OK {
		t.Errorf("Windows = %v, %d", l, e)
	}
	if l, e := Windows(example(), minima(), 0, 3, 7); !slices.Equal(l, []api.Span{span(3, 6)}) || e != api.OK {
		t.Errorf("Windows of some ticks = %v, %d", l, e)
	}
	always := api.Met{Places: 1, Any: sky(span(0, 0), span(9000, 9000), span(9000, 9000), false)}
	for _, c := range []struct {
		m                api.Met
		from, stay, want int
		e                api.Errno
	}{
		{example(), 0, 9, 0, api.OK}, {example(), 0, 10, 0, api.ErrNone}, {example(), 4, 5, 4, api.OK}, {example(), 9, 0, 9, api.OK}, {example(), 10, 0, 0, api.ErrNone},
		{always, 2000, 0, 2000, api.OK}, {always, 2000, 1, 0, api.ErrNone}, {always, 0, 2000, 0, api.OK}, {always, 1, 2000, 0, api.ErrNone}, {always, 1500, 500, 1500, api.OK},
	} {
		if n, e := First(c.m, minima(), 0, c.from, c.stay); n != c.want || e != c.e {
			t.Errorf("First from %d, stay %d = %d, %d", c.from, c.stay, n, e)
		}
	}
	if n, e := First(example(), minima(), 1, 0, 0); n != 4 || e != api.OK {
		t.Errorf("First of the place 1 = %d, %d", n, e)
	}
}

func TestP4_8Alternates(t *testing.T) {
	for _, c := range []struct {
		places   []int
		from, to int
		want     []int
	}{{[]int{1, 0}, 4, 6, []int{0}}, {[]int{1, 0}, 4, 5, []int{1, 0}}, {[]int{0, 1, 0, 0}, 4, 6, []int{0, 0, 0}}, {nil, 4, 6, nil}, {slices.Repeat([]int{0}, 40), 0, 10, slices.Repeat([]int{0}, 40)}} {
		if l, e := Alternates(example(), minima(), c.places, c.from, c.to); !slices.Equal(l, c.want) || e != api.OK {
			t.Errorf("Alternates of %v = %v, %d", c.places, l, e)
		}
	}
	for _, c := range []struct {
		places   []int
		from, to int
		e        api.Errno
	}{{make([]int, 41), 0, 1, api.ErrMany}, {make([]int, 41), 1, 1, api.ErrArg}, {[]int{0, 2}, 0, 1, api.ErrArg}, {[]int{-1}, 0, 1, api.ErrArg}} {
		if l, e := Alternates(example(), minima(), c.places, c.from, c.to); l != nil || e != c.e {
			t.Errorf("Alternates of %v = %v, %d", c.places, l, e)
		}
	}
}

func TestP4_9Real(t *testing.T) {
	row := func(winds ...int) []api.Weather {
		var l []api.Weather
		for _, w := range winds {
			l = append(l, api.Weather{Wind: w, See: 6000, Ceiling: 1500})
		}
		return l
	}
	for _, c := range []struct {
		place, from int
		l           []api.Weather
		tick        int
		is          bool
		e           api.Errno
	}{
		{1, 4, row(20, 25, 30), 0, true, api.OK},
		{1, 4, row(20, 26), 5, false, api.OK},
		{1, 4, row(21), 4, false, api.OK},
		{1, 3, row(16, 20, 15), 0, true, api.OK},
		{1, 3, row(14, 20), 4, false, api.OK},
		{1, 0, nil, 0, true, api.OK},
		{1, 2000, row(0), 0, true, api.OK},
		{1, 2000, row(0, 0), 0, false, api.ErrMany},
		{1, 2000, row(301, 0), 0, false, api.ErrMany},
		{1, 0, row(0, -1), 0, false, api.ErrWeather},
		{1, 0, []api.Weather{{See: 20001}}, 0, false, api.ErrWeather},
		{1, 0, []api.Weather{{Ceiling: -1}}, 0, false, api.ErrWeather},
		{2, 0, nil, 0, false, api.ErrArg},
		{0, -1, nil, 0, false, api.ErrArg},
		{0, 2001, nil, 0, false, api.ErrArg},
		{0, 5, []api.Weather{{Wind: 10, See: 4000, Ceiling: 500, Ice: true}}, 5, false, api.OK},
		{0, 5, []api.Weather{{Wind: 10, See: 4000, Ceiling: 500, Storm: true}}, 5, false, api.OK},
		{0, 5, []api.Weather{{Wind: 10, See: 4000, Ceiling: 500}, {Wind: 10, See: 5001, Ceiling: 500}}, 6, false, api.OK},
		{0, 5, []api.Weather{{Wind: 10, See: 4000, Ceiling: 500}, {Wind: 10, See: 5000, Ceiling: 700}}, 0, true, api.OK},
		{0, 5, []api.Weather{{Wind: 10, See: 4000, Ceiling: 701}, {Wind: 10, See: 4000, Ceiling: 500}}, 6, false, api.OK},
		{0, 9, []api.Weather{{Wind: 25, See: 4000, Ceiling: 600}, {Wind: 25, See: 3000, Ceiling: 600}, {Wind: 25, See: 3001, Ceiling: 600}}, 11, false, api.OK},
		{0, 5, []api.Weather{{Wind: 10, See: 3999, Ceiling: 701}}, 5, false, api.OK},
		{0, 5, []api.Weather{{Wind: 10, See: 4000, Ceiling: 499}}, 5, false, api.OK},
	} {
		if tick, is, e := Real(example(), c.place, c.from, c.l); tick != c.tick || is != c.is || e != c.e {
			t.Errorf("Real at %d from %d of %v = %d, %v, %d", c.place, c.from, c.l, tick, is, e)
		}
	}
}

func TestErrorsInTheirOrder(t *testing.T) {
	type call func(m api.Met, l api.Minima, place, from, to int) api.Errno
	alone := map[string]call{
		"May":     func(m api.Met, l api.Minima, p, a, b int) api.Errno { _, e := May(m, p, a); return e },
		"Strange": func(m api.Met, l api.Minima, p, a, b int) api.Errno { _, e := Strange(m, p, a); return e },
	}
	pairs := map[string]call{
		"Hull": func(m api.Met, l api.Minima, p, a, b int) api.Errno { _, e := Hull(m, p, a, b); return e },
	}
	judgedAlone := map[string]call{
		"Open":    func(m api.Met, l api.Minima, p, a, b int) api.Errno { _, e := Open(m, l, p, a); return e },
		"Perhaps": func(m api.Met, l api.Minima, p, a, b int) api.Errno { _, e := Perhaps(m, l, p, a); return e },
		"First":   func(m api.Met, l api.Minima, p, a, b int) api.Errno { _, e := First(m, l, p, a, 0); return e },
	}
	judgedPairs := map[string]call{
		"Windows": func(m api.Met, l api.Minima, p, a, b int) api.Errno { _, e := Windows(m, l, p, a, b); return e },
		"Alternates": func(m api.Met, l api.Minima, p, a, b int) api.Errno {
			_, e := Alternates(m, l, []int{p}, a, b)
			return e
		},
	}
	for i, calls := range []map[string]call{alone, pairs, judgedAlone, judgedPairs} {
		for name, f := range calls {
			if e := f(api.Met{}, api.Minima{Wind: -1}, 9, -1, -1); e != api.ErrMet {
				t.Errorf("%s without a met: %d", name, e)
			}
			for _, l := range []api.Minima{{Wind: -1}, {Wind: 301}, {See: -1}, {See: 20001}, {Ceiling: -1}, {Ceiling: 20001}} {
				if e := f(example(), l, 9, -1, -1); (e == api.ErrMinima) != (i >= 2) {
					t.Errorf("%s with the minima %v: %d", name, l, e)
				}
			}
			for _, p := range []int{-1, 2, math.MaxInt} {
				if e := f(example(), minima(), p, 0, 1); e != api.ErrArg {
					t.Errorf("%s of the place %d: %d", name, p, e)
				}
			}
			for _, tick := range []int{-1, 2001, math.MaxInt, math.MinInt} {
				if e := f(example(), minima(), 0, tick, 2000); e != api.ErrArg {
					t.Errorf("%s of the tick %d: %d", name, tick, e)
				}
			}
			if e := f(example(), minima(), 0, 0, 2000); e != api.OK {
				t.Errorf("%s: %d", name, e)
			}
			for _, p := range [][2]int{{5, 5}, {6, 5}, {0, 2001}, {2000, 2001}} {
				if e := f(example(), minima(), 1, p[0], p[1]); (e == api.ErrArg) != (i%2 == 1) {
					t.Errorf("%s of the ticks %v: %d", name, p, e)
				}
			}
		}
	}
	for _, stay := range []int{-1, 2001, math.MaxInt} {
		if _, e := First(example(), minima(), 0, 0, stay); e != api.ErrArg {
			t.Errorf("First with stay %d: %d", stay, e)
		}
	}
}

func inside(r *rand.Rand, low, high int) api.Span {
	a, b := low+r.Intn(high-low+1), low+r.Intn(high-low+1)
	return span(min(a, b), max(a, b))
}

func anySky(r *rand.Rand) api.Sky {
	return api.Sky{Wind: inside(r, 0, 8), See: inside(r, 0, 8), Ceiling: inside(r, 0, 8), Ice: r.Intn(2) == 0, Storm: r.Intn(2) == 0}
}

func anyWeather(r *rand.Rand) api.Weather {
	return api.Weather{Wind: r.Intn(9), See: r.Intn(9), Ceiling: r.Intn(9), Ice: r.Intn(3) == 0, Storm: r.Intn(3) == 0}
}

func anyMet(r *rand.Rand) api.Met {
	m := api.Met{Places: 2, Any: anySky(r), Wind: r.Intn(3), See: r.Intn(3), Ceiling: r.Intn(3)}
	for range r.Intn(5) {
		from := r.Intn(8)
		m.Forecasts = append(m.Forecasts, api.Forecast{Place: r.Intn(2), From: from, To: from + 1 + r.Intn(6), Issued: r.Intn(4), Sky: anySky(r)})
	}
	for range r.Intn(3) {
		m.Sights = append(m.Sights, api.Sight{Place: r.Intn(2), At: r.Intn(10), Now: anyWeather(r)})
	}
	return m
}

func anyMinima(r *rand.Rand) api.Minima {
	return api.Minima{Wind: r.Intn(9), See: r.Intn(9), Ceiling: r.Intn(9), Ice: r.Intn(2) == 0, Storm: r.Intn(2) == 0}
}

func flyable(w api.Weather, l api.Minima) bool {
	return w.Wind <= l.Wind && w.See >= l.See && w.Ceiling >= l.Ceiling && (l.Ice || !w.Ice) && (l.Storm || !w.Storm)
}

func isIn(w api.Weather, s api.Sky) bool {
	return w.Wind >= s.Wind.Low && w.Wind <= s.Wind.High && w.See >= s.See.Low && w.See <= s.See.High && w.Ceiling >= s.Ceiling.Low && w.Ceiling <= s.Ceiling.High && (s.Ice || !w.Ice) && (s.Storm || !w.Storm)
}

func TestP4_10OpenForEveryWeather(t *testing.T) {
	r := rand.New(rand.NewSource(1))
	for range 300 {
		m, l, place, tick := anyMet(r), anyMinima(r), r.Intn(2), r.Intn(15)
		s, _ := May(m, place, tick)
		all, some := true, false
		for wind := s.Wind.Low; wind <= s.Wind.High; wind++ {
			for see := s.See.Low; see <= s.See.High; see++ {
				for ceiling := s.Ceiling.Low; ceiling <= s.Ceiling.High; ceiling++ {
					for wild := range 4 {
						w := api.Weather{Wind: wind, See: see, Ceiling: ceiling, Ice: wild%2 == 1, Storm: wild/2 == 1}
						if isIn(w, s) {
							all, some = all && flyable(w, l), some || flyable(w, l)
						}
					}
				}
			}
		}
		open, e := Open(m, l, place, tick)
		if open != all || e != api.OK {
			t.Fatalf("Open = %v, %d of %v with %v", open, e, s, l)
		}
		perhaps, e := Perhaps(m, l, place, tick)
		if perhaps != some || e != api.OK {
			t.Fatalf("Perhaps = %v, %d of %v with %v", perhaps, e, s, l)
		}
	}
}

func within(a, b api.Sky) bool {
	in := func(a, b api.Span) bool { return a.Low >= b.Low && a.High <= b.High }
	return in(a.Wind, b.Wind) && in(a.See, b.See) && in(a.Ceiling, b.Ceiling) && (b.Ice || !a.Ice) && (b.Storm || !a.Storm)
}

func TestP4_11ForecastsCut(t *testing.T) {
	r := rand.New(rand.NewSource(2))
	cuts := 0
	for range 500 {
		m, l, tick := anyMet(r), anyMinima(r), r.Intn(12)
		m.Sights = nil
		more := m
		more.Forecasts = append(slices.Clone(m.Forecasts), api.Forecast{From: 0, To: 12, Issued: 4, Sky: anySky(r)})
		if strange, _ := Strange(more, 0, tick); slices.Contains(strange, len(m.Forecasts)) {
			continue
		}
		cuts++
		before, _ := May(m, 0, tick)
		if now, _ := May(more, 0, tick); !within(now, before) {
			t.Fatalf("one more forecast makes %v of %v", now, before)
		}
		was, _ := Open(m, l, 0, tick)
		if is, _ := Open(more, l, 0, tick); was && !is {
			t.Fatal("one more forecast closes a place")
		}
	}
	if cuts < 50 {
		t.Errorf("only %d cuts", cuts)
	}
}

func TestP4_12SeenIsSeen(t *testing.T) {
	r := rand.New(rand.NewSource(3))
	for range 300 {
		m := anyMet(r)
		s := api.Sight{Place: r.Intn(2), At: r.Intn(10), Now: anyWeather(r)}
		m.Sights = append(m.Sights, s)
		now := s.Now
		want := api.Sky{Wind: span(now.Wind, now.Wind), See: span(now.See, now.See), Ceiling: span(now.Ceiling, now.Ceiling), Ice: now.Ice, Storm: now.Storm}
		if may, e := May(m, s.Place, s.At); may != want || e != api.OK {
			t.Fatalf("May in the tick of a sight = %v, %d, want %v", may, e, want)
		}
		m.Sights = []api.Sight{s}
		for n := range 4 {
			may, _ := May(m, s.Place, s.At+n)
			wide := api.Sky{Wind: span(now.Wind-n*m.Wind, now.Wind+n*m.Wind), See: span(now.See-n*m.See, now.See+n*m.See), Ceiling: span(now.Ceiling-n*m.Ceiling, now.Ceiling+n*m.Ceiling), Ice: true, Storm: true}
			if !within(may, wide) {
				t.Fatalf("%d ticks behind %v there may be %v", n, now, may)
			}
		}
	}
}

func TestP4_13And14Ticks(t *testing.T) {
	r := rand.New(rand.NewSource(4))
	for range 300 {
		m, l, place, from := anyMet(r), anyMinima(r), r.Intn(2), r.Intn(10)
		to := from + 1 + r.Intn(6)
		windows, e := Windows(m, l, place, from, to)
		if e != api.OK {
			t.Fatal(e)
		}
		weaker := api.Minima{Wind: l.Wind + 1, See: max(0, l.See-1), Ceiling: max(0, l.Ceiling-1), Ice: true, Storm: true}
		hull, _ := Hull(m, place, from, to)
		all := true
		for tick := from; tick < to; tick++ {
			is, _ := Open(m, l, place, tick)
			in := slices.ContainsFunc(windows, func(s api.Span) bool { return tick >= s.Low && tick <= s.High })
			if is != in {
				t.Fatalf("Open is %v in %d, Windows are %v", is, tick, windows)
			}
			if weak, _ := Open(m, weaker, place, tick); is && !weak {
				t.Fatalf("weaker minima close a place")
			}
			all = all && is
			if s, _ := May(m, place, tick); !within(s, hull) {
				t.Fatalf("Hull %v has not %v", hull, s)
			}
		}
		for i := 1; i < len(windows); i++ {
			if windows[i].Low <= windows[i-1].High+1 {
				t.Fatalf("Windows are %v", windows)
			}
		}
		alternates, _ := Alternates(m, l, []int{place}, from, to)
		if (len(alternates) == 1) != all {
			t.Fatalf("Alternates = %v, but it is open all the time: %v", alternates, all)
		}
		if (possible{Sky: hull}).open(l) && !all {
			t.Fatal("the hull is flyable, but the place is no alternate")
		}
		stay := r.Intn(4)
		first, e := First(m, l, place, from, stay)
		for tick := from; tick < from+20; tick++ {
			open := 0
			for open <= stay {
				if is, _ := Open(m, l, place, tick+open); !is {
					break
				}
				open++
			}
			if open > stay {
				if first != tick || e != api.OK {
					t.Fatalf("First = %d, %d, want %d", first, e, tick)
				}
				break
			}
			if e == api.OK && first == tick {
				t.Fatalf("First = %d, but it is not open", first)
			}
		}
	}
}

func TestNothingIsChanged(t *testing.T) {
	m := example()
	slices.Reverse(m.Forecasts)
	m.Sights = append(m.Sights, api.Sight{Place: 1, At: 2})
	if _, e := May(m, 0, 5); e != api.OK {
		t.Fatal(e)
	}
	if m.Forecasts[0].Issued != 5 || m.Sights[0].At != 4 {
		t.Error("May sorts the met itself")
	}
}

func TestTheGreatestNumbers(t *testing.T) {
	m := api.Met{Places: 1, Any: sky(span(0, 9), span(0, 9), span(0, 9), false), Wind: 10, See: 1000, Ceiling: 1000}
	m.Sights = []api.Sight{{At: 0, Now: api.Weather{Wind: 300, See: 20000, Ceiling: 20000}}}
	if s, e := May(m, 0, 1); s != sky(span(290, 300), span(19000, 20000), span(19000, 20000), false) || e != api.OK {
		t.Errorf("May behind the greatest weather = %v, %d", s, e)
	}
	m.Any = sky(span(50, 60), span(5000, 6000), span(5000, 6000), false)
	m.Sights[0].Now = api.Weather{}
	if s, e := May(m, 0, 1); s != sky(span(0, 10), span(0, 1000), span(0, 1000), false) || e != api.OK {
		t.Errorf("May behind no weather at all = %v, %d", s, e)
	}
	if is, e := Open(m, api.Minima{Wind: 300, See: 20000, Ceiling: 20000}, 0, 0); is || e != api.OK {
		t.Errorf("Open with the greatest minima = %v, %d", is, e)
	}
}
