package deck

import (
	"math"
	"math/rand"
	"slices"
	"testing"

	"swashplate/api"
	"swashplate/samples"
	"swashplate/weather"
)

func span(low, high int) api.Span { return api.Span{Low: low, High: high} }

func sky(wind, see, ceiling api.Span, wild bool) api.Sky {
	return api.Sky{Wind: wind, See: see, Ceiling: ceiling, Ice: wild, Storm: wild}
}

// met is that of the layer 4.
func met() api.Met { return samples.Met() }

func ship() api.Deck { return samples.Deck() }

func swell() api.Motion { return samples.Motion() }

func approach() api.Approach { return samples.Approach() }

func changed(change func(a *api.Approach)) api.Approach {
	a := approach()
	change(&a)
	return a
}

func TestP6_1Check(t *testing.T) {
	great := api.Deck{Size: 1000000, Load: 1000000, Wind: 300, Pitch: 300, Roll: 300, Heave: 300, Fire: 100,
		Sectors: slices.Repeat([]api.Sector{{From: 359, To: 359, Wind: 300}}, 8), Shifts: slices.Repeat([]api.Shift{{From: 1999, To: 2000, People: 100}}, 12), Shut: slices.Repeat([]api.Span{span(0, 2000)}, 12)}
	for i, d := range []api.Deck{ship(), great, {Size: 1, Load: 1}} {
		if e := Check(d); e != api.OK {
			t.Errorf("%d: %d", i, e)
		}
	}
	for i, change := range []func(d *api.Deck){
		func(d *api.Deck) { d.Size = 0 }, func(d *api.Deck) { d.Size = 1000001 }, func(d *api.Deck) { d.Load = 0 }, func(d *api.Deck) { d.Load = 1000001 },
		func(d *api.Deck) { d.Wind = -1 }, func(d *api.Deck) { d.Wind = 301 },
		func(d *api.Deck) { d.Pitch = -1 }, func(d *api.Deck) { d.Pitch = 301 }, func(d *api.Deck) { d.Roll = -1 }, func(d *api.Deck) { d.Roll = 301 },
		func(d *api.Deck) { d.Heave = -1 }, func(d *api.Deck) { d.Heave = 301 }, func(d *api.Deck) { d.Fire = -1 }, func(d *api.Deck) { d.Fire = 101 },
		func(d *api.Deck) { d.Sectors = slices.Repeat(d.Sectors[:1], 9) }, func(d *api.Deck) { d.Sectors[1].From = -1 }, func(d *api.Deck) { d.Sectors[1].To = 360 },
		func(d *api.Deck) { d.Sectors[1].Wind = -1 }, func(d *api.Deck) { d.Sectors[0].Wind = 301 },
		func(d *api.Deck) { d.Shifts = slices.Repeat(d.Shifts[:1], 13) }, func(d *api.Deck) { d.Shifts[1].From = 20 }, func(d *api.Deck) { d.Shifts[0].From = -1 },
		func(d *api.Deck) { d.Shifts[0].To = 2001 }, func(d *api.Deck) { d.Shifts[0].People = 0 }, func(d *api.Deck) { d.Shifts[0].People = 101 },
		func(d *api.Deck) { d.Shut = slices.Repeat(d.Shut, 13) }, func(d *api.Deck) { d.Shut[0] = span(7, 6) }, func(d *api.Deck) { d.Shut[0] = span(-1, 6) }, func(d *api.Deck) { d.Shut[0] = span(6, 2001) },
	} {
		d := ship()
		change(&d)
		if e := Check(d); e != api.ErrDeck {
			t.Errorf("%d: %d", i, e)
		}
		if e := CheckMotion(d, api.Motion{Pitch: []int{1}}); e != api.ErrDeck {
			t.Errorf("%d: %d", i, e)
		}
	}
	long := make([]int, 2001)
	for i, m := range []api.Motion{swell(), {}, {Pitch: long, Roll: long, Heave: long}, {Pitch: []int{-300}, Roll: []int{300}, Heave: []int{300}}} {
		if e := CheckMotion(ship(), m); e != api.OK {
			t.Errorf("motion %d: %d", i, e)
		}
	}
	longer := make([]int, 2002)
	for i, m := range []api.Motion{{Pitch: longer, Roll: longer, Heave: longer}, {Pitch: []int{0}}, {Roll: []int{0}}, {Heave: []int{0}}, {Pitch: []int{301}, Roll: []int{0}, Heave: []int{0}}, {Pitch: []int{0}, Roll: []int{-301}, Heave: []int{0}}, {Pitch: []int{0}, Roll: []int{0}, Heave: []int{math.MinInt}}} {
		if e := CheckMotion(ship(), m); e != api.ErrMotion {
			t.Errorf("motion %d: %d", i, e)
		}
	}
}

func TestP6_2Limit(t *testing.T) {
	for _, c := range []struct {
		wind api.Span
		want int
	}{{span(90, 100), 40}, {span(50, 100), 28}, {span(350, 380), 28}, {span(140, 160), 25}, {span(60, 60), 28}, {span(61, 149), 40}, {span(299, 299), 40}, {span(300, 300), 28}, {span(0, 0), 28}, {span(0, 719), 25}, {span(510, 510), 25}, {span(450, 450), 40}, {span(719, 719), 28}, {span(201, 299), 40}, {span(100, 350), 25}} {
		if n, e := Limit(ship(), c.wind); n != c.want || e != api.OK {
			t.Errorf("Limit(%v) = %d, %d", c.wind, n, e)
		}
	}
	narrow := ship()
	narrow.Sectors = []api.Sector{{From: 90, To: 90, Wind: 0}}
	for _, c := range [][2]int{{89, 40}, {90, 0}, {91, 40}, {450, 0}} {
		if n, e := Limit(narrow, span(c[0], c[0])); n != c[1] || e != api.OK {
			t.Errorf("Limit beside a narrow sector at %d = %d, %d", c[0], n, e)
		}
	}
	strong := ship()
	strong.Wind = 10
	if n, e := Limit(strong, span(0, 719)); n != 10 || e != api.OK {
		t.Errorf("Limit of the deck = %d, %d", n, e)
	}
	for _, s := range []api.Span{span(1, 0), span(-1, 5), span(0, 720), span(math.MinInt, math.MaxInt)} {
		if n, e := Limit(ship(), s); n != 0 || e != api.ErrArg {
			t.Errorf("Limit(%v) = %d, %d", s, n, e)
		}
	}
	if n, e := Limit(api.Deck{}, span(1, 0)); n != 0 || e != api.ErrDeck {
		t.Errorf("Limit without a deck = %d, %d", n, e)
	}
}

func TestP6_3Quiet(t *testing.T) {
	for _, c := range []struct {
		from, to, stay int
		want           []api.Span
	}{{0, 10, 1, []api.Span{span(0, 1), span(3, 3), span(5, 9)}}, {0, 10, 3, []api.Span{span(5, 9)}}, {0, 10, 6, nil}, {4, 20, 1, []api.Span{span(5, 9)}}, {6, 8, 2, []api.Span{span(6, 7)}}, {10, 2000, 1, nil}} {
		if l, e := Quiet(ship(), swell(), c.from, c.to, c.stay); !slices.Equal(l, c.want) || e != api.OK {
			t.Errorf("Quiet(%d, %d, %d) = %v, %d", c.from, c.to, c.stay, l, e)
		}
	}
	if l, e := Quiet(ship(), api.Motion{}, 0, 2000, 100); !slices.Equal(l, []api.Span{span(0, 1999)}) || e != api.OK {
		t.Errorf("Quiet of a platform = %v, %d", l, e)
	}
	rolling := swell()
	rolling.Roll = []int{3, -3, 4, -4, 0, 0, 0, 0, 0, 0}
	rolling.Pitch = []int{-3, -4, 0, 0, 0, 0, 0, 0, 0, 0}
	rolling.Heave = []int{9, 9, 9, 9, 9, 9, 7, 4, 4, 6}
	if l, e := Quiet(ship(), rolling, 0, 10, 1); !slices.Equal(l, []api.Span{span(0, 0), span(4, 6), span(8, 9)}) || e != api.OK {
		t.Errorf("Quiet of one that rolls = %v, %d", l, e)
	}
	for _, c := range [][3]int{{0, 10, 0}, {0, 10, 101}, {5, 5, 1}, {-1, 5, 1}, {0, 2001, 1}, {6, 5, 1}} {
		if l, e := Quiet(ship(), swell(), c[0], c[1], c[2]); l != nil || e != api.ErrArg {
			t.Errorf("Quiet(%v) = %v, %d", c, l, e)
		}
	}
	if _, e := Quiet(api.Deck{}, api.Motion{Pitch: []int{1}}, 0, 0, 0); e != api.ErrDeck {
		t.Errorf("Quiet without a deck: %d", e)
	}
	if _, e := Quiet(ship(), api.Motion{Pitch: []int{1}}, 0, 0, 0); e != api.ErrMotion {
		t.Errorf("Quiet without a motion: %d", e)
	}
}

func TestP6_4Manned(t *testing.T) {
	if l, e := Manned(ship(), 0, 20); !slices.Equal(l, []api.Span{span(4, 11)}) || e != api.OK {
		t.Errorf("Manned = %v, %d", l, e)
	}
	if l, e := Manned(ship(), 11, 20); !slices.Equal(l, []api.Span{span(11, 11)}) || e != api.OK {
		t.Errorf("Manned in a tick = %v, %d", l, e)
	}
	small := ship()
	small.Fire = 2
	if l, e := Manned(small, 1, 30); !slices.Equal(l, []api.Span{span(1, 19)}) || e != api.OK {
		t.Errorf("Manned by one shift = %v, %d", l, e)
	}
	small.Fire = 0
	if l, e := Manned(small, 0, 2000); !slices.Equal(l, []api.Span{span(0, 1999)}) || e != api.OK {
		t.Errorf("Manned by nobody = %v, %d", l, e)
	}
	for _, c := range [][2]int{{5, 5}, {-1, 5}, {0, 2001}, {6, 5}} {
		if l, e := Manned(ship(), c[0], c[1]); l != nil || e != api.ErrArg {
			t.Errorf("Manned(%v) = %v, %d", c, l, e)
		}
	}
	if _, e := Manned(api.Deck{}, 5, 5); e != api.ErrDeck {
		t.Errorf("Manned without a deck: %d", e)
	}
}

func TestP6_5Why(t *testing.T) {
	for _, c := range []struct {
		a    api.Approach
		tick int
		want []int
	}{
		{approach(), 2, []int{4, 5}}, {approach(), 6, []int{6}}, {approach(), 12, []int{2, 4, 5}}, {approach(), 5, nil},
		{changed(func(a *api.Approach) { a.Wind = span(50, 100) }), 5, []int{3}},
		{changed(func(a *api.Approach) { a.Weight = 9001 }), 5, []int{1}},
		{changed(func(a *api.Approach) { a.Weight = 9000 }), 5, nil},
		{changed(func(a *api.Approach) { a.Size = 20 }), 5, nil},
		{changed(func(a *api.Approach) { a.Size = 21 }), 5, []int{1}},
		{changed(func(a *api.Approach) { a.Minima.Wind = 29 }), 5, []int{2}},
		{changed(func(a *api.Approach) { a.Size, a.Place, a.Wind = 99, 1, span(0, 719) }), 2000, []int{1, 2, 3, 4, 5}},
	} {
		if l, e := Why(ship(), met(), swell(), c.a, c.tick); !slices.Equal(l, c.want) || e != api.OK {
			t.Errorf("Why in %d = %v, %d, want %v", c.tick, l, e, c.want)
		}
	}
}

func TestP6_6Windows(t *testing.T) {
	if l, e := Windows(ship(), met(), swell(), approach(), 0, 20); !slices.Equal(l, []api.Span{span(5, 5), span(7, 9)}) || e != api.OK {
		t.Errorf("Windows = %v, %d", l, e)
	}
	if l, e := Windows(ship(), met(), swell(), approach(), 8, 9); !slices.Equal(l, []api.Span{span(8, 8)}) || e != api.OK {
		t.Errorf("Windows of a tick = %v, %d", l, e)
	}
}

func TestP6_7Book(t *testing.T) {
	book := func(at, stay int) api.Booking { return api.Booking{At: at, Stay: stay, Approach: approach()} }
	heavy := book(0, 1)
	heavy.Approach.Weight = 9001
	for i, c := range []struct {
		l    []api.Booking
		want []int
	}{
		{[]api.Booking{book(0, 2), book(0, 1), book(8, 1)}, []int{7, 5, 9}},
		{[]api.Booking{book(0, 2), book(0, 1), book(8, 1), book(0, 1)}, []int{7, 5, 9, -1}},
		{[]api.Booking{book(0, 3), book(0, 3), book(10, 1), heavy, book(2000, 100)}, []int{7, -1, -1, -1, -1}},
		{nil, nil},
		{slices.Repeat([]api.Booking{book(0, 1)}, 20), append([]int{5, 7, 8, 9}, slices.Repeat([]int{-1}, 16)...)},
	} {
		if l, e := Book(ship(), met(), swell(), c.l); !slices.Equal(l, c.want) || e != api.OK {
			t.Errorf("%d: Book = %v, %d", i, l, e)
		}
	}
	always := ship()
	always.Shut, always.Fire = nil, 0
	clear := api.Met{Places: 1, Any: sky(span(0, 9), span(9000, 9000), span(9000, 9000), false)}
	if l, e := Book(always, clear, api.Motion{}, []api.Booking{book(1901, 100), book(2000, 1), book(1900, 2), book(1900, 1)}); !slices.Equal(l, []int{1901, -1, -1, 1900}) || e != api.OK {
		t.Errorf("Book in the last ticks = %v, %d", l, e)
	}
	if l, e := Book(always, clear, api.Motion{}, []api.Booking{book(0, 3), book(0, 2), book(1, 1)}); !slices.Equal(l, []int{0, 3, 5}) || e != api.OK {
		t.Errorf("Book in the first ticks = %v, %d", l, e)
	}
	great := book(0, 1)
	great.Approach.Size, great.Approach.Weight = 1000000, 1000000
	always.Size, always.Load = 1000000, 1000000
	if l, e := Book(always, clear, api.Motion{}, []api.Booking{great}); !slices.Equal(l, []int{0}) || e != api.OK {
		t.Errorf("Book of the greatest helicopter = %v, %d", l, e)
	}
	for i, c := range []struct {
		l []api.Booking
		e api.Errno
	}{{make([]api.Booking, 21), api.ErrMany}, {[]api.Booking{book(0, 1), book(-1, 1)}, api.ErrApproach}, {[]api.Booking{book(2001, 1)}, api.ErrApproach}, {[]api.Booking{book(0, 0)}, api.ErrApproach}, {[]api.Booking{book(0, 101)}, api.ErrApproach}, {[]api.Booking{book(0, 1), {Stay: 1}}, api.ErrApproach}} {
		if l, e := Book(ship(), met(), swell(), c.l); l != nil || e != c.e {
			t.Errorf("%d: Book = %v, %d", i, l, e)
		}
	}
}

func TestErrorsInTheirOrder(t *testing.T) {
	calls := map[string]func(d api.Deck, m api.Met, s api.Motion, a api.Approach, from, to int) api.Errno{
		"Why": func(d api.Deck, m api.Met, s api.Motion, a api.Approach, from, to int) api.Errno {
			_, e := Why(d, m, s, a, from)
			return e
		},
		"Windows": func(d api.Deck, m api.Met, s api.Motion, a api.Approach, from, to int) api.Errno {
			_, e := Windows(d, m, s, a, from, to)
			return e
		},
		"Book": func(d api.Deck, m api.Met, s api.Motion, a api.Approach, from, to int) api.Errno {
			n := 1
			if from < 0 {
				n = 30
			}
			_, e := Book(d, m, s, slices.Repeat([]api.Booking{{Approach: a, Stay: 1}}, n))
			return e
		},
	}
	wrong := api.Motion{Pitch: []int{1}}
	for name, f := range calls {
		if e := f(api.Deck{}, api.Met{}, wrong, api.Approach{}, -1, -1); e != api.ErrDeck {
			t.Errorf("%s: %d", name, e)
		}
		if e := f(ship(), api.Met{}, wrong, api.Approach{}, -1, -1); e != api.ErrMet {
			t.Errorf("%s: %d", name, e)
		}
		if e := f(ship(), met(), wrong, api.Approach{}, -1, -1); e != api.ErrMotion {
			t.Errorf("%s: %d", name, e)
		}
		for i, a := range []api.Approach{
			{}, changed(func(a *api.Approach) { a.Size = 0 }), changed(func(a *api.Approach) { a.Size = 1000001 }), changed(func(a *api.Approach) { a.Weight = 0 }),
			changed(func(a *api.Approach) { a.Weight = 1000001 }), changed(func(a *api.Approach) { a.Minima.Wind = 301 }), changed(func(a *api.Approach) { a.Minima.See = -1 }),
			changed(func(a *api.Approach) { a.Minima.Ceiling = 20001 }), changed(func(a *api.Approach) { a.Place = 2 }), changed(func(a *api.Approach) { a.Place = -1 }),
			changed(func(a *api.Approach) { a.Wind = span(1, 0) }), changed(func(a *api.Approach) { a.Wind = span(-1, 0) }), changed(func(a *api.Approach) { a.Wind = span(0, 720) }),
		} {
			for _, tick := range []int{-1, 0} {
				want := api.ErrApproach
				if name == "Book" && tick < 0 {
					want = api.ErrMany
				}
				if e := f(ship(), met(), swell(), a, tick, -1); e != want {
					t.Errorf("%s of the approach %d: %d", name, i, e)
				}
			}
		}
	}
	for _, tick := range []int{-1, 2001, math.MaxInt} {
		if l, e := Why(ship(), met(), swell(), approach(), tick); l != nil || e != api.ErrArg {
			t.Errorf("Why in %d = %v, %d", tick, l, e)
		}
	}
	for _, p := range [][2]int{{-1, 5}, {5, 5}, {6, 5}, {0, 2001}} {
		if l, e := Windows(ship(), met(), swell(), approach(), p[0], p[1]); l != nil || e != api.ErrArg {
			t.Errorf("Windows of %v = %v, %d", p, l, e)
		}
	}
}

func some(r *rand.Rand, low, high int) api.Span {
	a, b := low+r.Intn(high-low+1), low+r.Intn(high-low+1)
	return span(min(a, b), max(a, b))
}

// random is any deck, weather and motion in few ticks.
func random(r *rand.Rand) (api.Deck, api.Met, api.Motion) {
	d := api.Deck{Size: 10, Load: 100, Wind: 10 + r.Intn(20), Pitch: 2 + r.Intn(3), Roll: 2 + r.Intn(3), Heave: 1 + r.Intn(4), Fire: r.Intn(3)}
	for range r.Intn(3) {
		d.Sectors = append(d.Sectors, api.Sector{From: r.Intn(360), To: r.Intn(360), Wind: 5 + r.Intn(25)})
	}
	for range 1 + r.Intn(4) {
		from := r.Intn(15)
		d.Shifts = append(d.Shifts, api.Shift{From: from, To: from + 5 + r.Intn(20), People: 1 + r.Intn(2)})
	}
	for range r.Intn(3) {
		d.Shut = append(d.Shut, some(r, 0, 30))
	}
	m := api.Met{Places: 2, Any: sky(span(0, 30), span(5, 9), span(5, 9), false)}
	for range r.Intn(6) {
		from := r.Intn(20)
		m.Forecasts = append(m.Forecasts, api.Forecast{Place: r.Intn(2), From: from, To: from + 5 + r.Intn(20), Sky: sky(some(r, 0, 20), span(r.Intn(6), 9), span(5, 9), false)})
	}
	var s api.Motion
	if r.Intn(4) > 0 {
		for range 30 {
			s.Pitch, s.Roll, s.Heave = append(s.Pitch, r.Intn(7)-3), append(s.Roll, r.Intn(6)-2), append(s.Heave, r.Intn(4))
		}
	}
	return d, m, s
}

func randomApproach(r *rand.Rand) api.Approach {
	return api.Approach{Size: 1 + r.Intn(11), Weight: 1 + r.Intn(105), Minima: api.Minima{Wind: 15 + r.Intn(20), See: 1 + r.Intn(6), Ceiling: 4}, Place: r.Intn(2), Wind: some(r, 0, 359)}
}

// isOpen follows the text of the document.
func isOpen(d api.Deck, m api.Met, s api.Motion, a api.Approach, tick int) []int {
	var why []int
	unless := func(n int, is bool) {
		if !is {
			why = append(why, n)
		}
	}
	unless(1, a.Size <= d.Size && a.Weight <= d.Load)
	open, _ := weather.Open(m, a.Minima, a.Place, tick)
	unless(2, open)
	may, _ := weather.May(m, a.Place, tick)
	limit := d.Wind
	for n := a.Wind.Low; n <= a.Wind.High; n++ {
		for _, sector := range d.Sectors {
			for k := sector.From; ; k = (k + 1) % 360 {
				if k == n%360 {
					limit = min(limit, sector.Wind)
				}
				if k == sector.To {
					break
				}
			}
		}
	}
	unless(3, may.Wind.High <= limit)
	quiet := len(s.Pitch) == 0
	if tick < len(s.Pitch) {
		quiet = s.Pitch[tick] <= d.Pitch && -s.Pitch[tick] <= d.Pitch && s.Roll[tick] <= d.Roll && -s.Roll[tick] <= d.Roll
		if tick > 0 {
			quiet = quiet && s.Heave[tick]-s.Heave[tick-1] <= d.Heave && s.Heave[tick-1]-s.Heave[tick] <= d.Heave
		}
	}
	unless(4, quiet)
	people := 0
	for _, shift := range d.Shifts {
		if tick >= shift.From && tick < shift.To {
			people += shift.People
		}
	}
	unless(5, people >= d.Fire)
	unless(6, !slices.ContainsFunc(d.Shut, func(s api.Span) bool { return tick >= s.Low && tick <= s.High }))
	return why
}

func in(l []api.Span, tick int) bool {
	return slices.ContainsFunc(l, func(s api.Span) bool { return tick >= s.Low && tick <= s.High })
}

func TestP6_8And9EachTick(t *testing.T) {
	r := rand.New(rand.NewSource(1))
	opened := 0
	for range 60 {
		d, m, s := random(r)
		a := randomApproach(r)
		windows, e := Windows(d, m, s, a, 0, 40)
		if e != api.OK {
			t.Fatal(e)
		}
		quiet, _ := Quiet(d, s, 0, 40, 1)
		manned, _ := Manned(d, 0, 40)
		for tick := range 40 {
			want := isOpen(d, m, s, a, tick)
			if l, e := Why(d, m, s, a, tick); !slices.Equal(l, want) || e != api.OK {
				t.Fatalf("Why = %v, %d, want %v", l, e, want)
			}
			if in(windows, tick) != (want == nil) || in(quiet, tick) == slices.Contains(want, 4) || in(manned, tick) == slices.Contains(want, 5) {
				t.Fatalf("Windows are %v, Quiet %v, Manned %v, but Why in %d is %v", windows, quiet, manned, tick, want)
			}
			if want != nil {
				continue
			}
			opened++
			may, _ := weather.May(m, a.Place, tick)
			worst := api.Weather{Wind: may.Wind.High, See: may.See.Low, Ceiling: may.Ceiling.Low}
			limit, _ := Limit(d, a.Wind)
			_, real, _ := weather.Real(m, a.Place, tick, []api.Weather{worst})
			if !real || worst.Wind > a.Minima.Wind || worst.See < a.Minima.See || worst.Wind > limit || worst.Wind > d.Wind {
				t.Fatalf("open in %d, but there may be %v", tick, worst)
			}
		}
	}
	if opened < 20 {
		t.Errorf("only %d ticks are open", opened)
	}
}

func TestP6_10FewerDirections(t *testing.T) {
	r := rand.New(rand.NewSource(2))
	for range 100 {
		d, m, s := random(r)
		wind := some(r, 0, 719)
		all, _ := Limit(d, wind)
		cut := wind.Low + r.Intn(wind.High-wind.Low+1)
		one, _ := Limit(d, span(wind.Low, cut))
		if cut < wind.High {
			two, _ := Limit(d, span(cut+1, wind.High))
			if all != min(one, two) {
				t.Fatalf("Limit of %v is %d, of its parts %d and %d", wind, all, one, two)
			}
		} else if one != all {
			t.Fatalf("Limit of %v is %d and %d", wind, all, one)
		}
		a := randomApproach(r)
		small := a
		small.Size, small.Weight = max(1, a.Size-1), max(1, a.Weight-1)
		windows, _ := Windows(d, m, s, a, 0, 40)
		more, _ := Windows(d, m, s, small, 0, 40)
		for tick := range 40 {
			if in(windows, tick) && !in(more, tick) {
				t.Fatalf("a smaller helicopter cannot land in %d", tick)
			}
		}
	}
}

func TestP6_11And12OneAtATime(t *testing.T) {
	r := rand.New(rand.NewSource(3))
	got := 0
	for range 60 {
		d, m, s := random(r)
		var l []api.Booking
		for range r.Intn(6) {
			b := api.Booking{At: r.Intn(20), Stay: 1 + r.Intn(4), Approach: randomApproach(r)}
			b.Approach.Size, b.Approach.Wind.High = 1, b.Approach.Wind.Low+5
			l = append(l, b)
		}
		begins, e := Book(d, m, s, l)
		if e != api.OK || len(begins) != len(l) {
			t.Fatalf("Book = %v, %d", begins, e)
		}
		taken := map[int]bool{}
		for i, b := range l {
			want := -1
			for tick := b.At; tick+b.Stay-1 <= api.MaxTime && want < 0; tick++ {
				want = tick
				for k := range b.Stay {
					if taken[tick+k] || isOpen(d, m, s, b.Approach, tick+k) != nil {
						want = -1
					}
				}
				if tick > 60 && want < 0 {
					break
				}
			}
			if begins[i] != want && (want >= 0 || begins[i] < 60) {
				t.Fatalf("Book = %v, want %d at %d", begins, want, i)
			}
			if begins[i] >= 0 {
				got++
				for k := range b.Stay {
					taken[begins[i]+k] = true
				}
			}
		}
		more, _ := Book(d, m, s, append(l, api.Booking{At: r.Intn(20), Stay: 2, Approach: randomApproach(r)}))
		if !slices.Equal(more[:len(l)], begins) {
			t.Fatalf("with one booking more %v, before %v", more, begins)
		}
	}
	if got < 20 {
		t.Errorf("only %d bookings", got)
	}
}
