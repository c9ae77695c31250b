package rotor

import (
	"math"
	"math/rand"
	"slices"
	"testing"

	"swashplate/api"
	"swashplate/samples"
	"swashplate/spans"
)

func table(x, y []int, values ...[]int) api.Table { return api.Table{X: x, Y: y, Values: values} }

// example is the rotor R of the document.
func example() api.Rotor { return samples.Rotor() }

// air is the air A of the document.
func air() api.Air { return samples.Air() }

func tables(r *api.Rotor) []*api.Table {
	return []*api.Table{&r.Hover, &r.Ground, &r.Level, &r.Power, &r.Never, &r.RingLow, &r.RingHigh, &r.Glide}
}

func inside(r *rand.Rand, s api.Span) api.Span {
	a, b := s.Low+r.Intn(s.High-s.Low+1), s.Low+r.Intn(s.High-s.Low+1)
	return span(min(a, b), max(a, b))
}

func smaller(r *rand.Rand, a api.Air) api.Air {
	return api.Air{Weight: inside(r, a.Weight), Temp: inside(r, a.Temp), Height: inside(r, a.Height), Wind: inside(r, a.Wind)}
}

// random has small tables with any values; all weights are from 0 to 12, temperatures and altitudes from 0 to 9.
func random(r *rand.Rand) api.Rotor {
	random := func(x, y []int, low, high int) api.Table {
		t := table(x, y)
		for range x {
			var row []int
			for range y {
				row = append(row, low+r.Intn(high-low+1))
			}
			t.Values = append(t.Values, row)
		}
		return t
	}
	weights, temps, speeds := []int{0, 5, 12}, []int{0, 4, 9}, []int{-3, 0, 7, 13, 20}
	m := api.Rotor{
		Hover: random(weights, temps, 0, 60), Ground: random([]int{0, 6}, []int{0, 5}, 40, 100), Level: random(speeds, weights, 0, 60),
		Power: random(temps, temps, 20, 90), Never: random(weights, temps, 0, 25),
		RingLow: random([]int{0, 10}, weights, 0, 8), Glide: random(speeds, weights, 1, 9), Climb: r.Intn(9) + 1, Burn: r.Intn(1000) + 1,
	}
	m.RingHigh = random([]int{0, 10}, weights, 8, 15)
	return m
}

func randomAir(r *rand.Rand) api.Air {
	return smaller(r, api.Air{Weight: span(0, 12), Temp: span(0, 9), Height: span(0, 9), Wind: span(0, 5)})
}

func TestP2_1Check(t *testing.T) {
	if e := Check(example()); e != api.OK {
		t.Errorf("Check = %d", e)
	}
	highest := []int{api.MaxPower, 100, api.MaxPower, api.MaxPower, api.MaxRate, api.MaxRate, api.MaxRate, api.MaxRate}
	for i := range highest {
		r := example()
		tables(&r)[i].Values[0][0] = highest[i]
		if i == 5 { // the lower end of the ring must not be above the upper one
			r.RingHigh.Values[0][0] = highest[i]
		}
		if e := Check(r); e != api.OK {
			t.Errorf("table %d with its highest value: %d", i, e)
		}
		tables(&r)[i].Values[0][0]++
		if i == 5 {
			r.RingHigh.Values[0][0] = highest[i]
		}
		if e := Check(r); e != api.ErrRotor {
			t.Errorf("table %d with a higher value: %d", i, e)
		}
		tables(&r)[i].Values[0][0] = -1
		if e := Check(r); e != api.ErrRotor {
			t.Errorf("table %d with a lower value: %d", i, e)
		}
		*tables(&r)[i] = api.Table{}
		if e := Check(r); e != api.ErrRotor {
			t.Errorf("table %d missing: %d", i, e)
		}
	}
	for i, change := range []func(r *api.Rotor){
		func(r *api.Rotor) { r.Climb = 0 }, func(r *api.Rotor) { r.Climb = 1001 },
		func(r *api.Rotor) { r.Burn = 0 }, func(r *api.Rotor) { r.Burn = 1001 },
		func(r *api.Rotor) { r.Glide.Values[1][1] = 0 },
		func(r *api.Rotor) { r.RingLow.X = []int{0, 31} },
		func(r *api.Rotor) { r.RingHigh.Y = []int{1000, 2001} },
		func(r *api.Rotor) { r.RingLow.Values[1][0] = 13 },
	} {
		r := example()
		change(&r)
		if e := Check(r); e != api.ErrRotor {
			t.Errorf("%d: %d", i, e)
		}
	}
}

func TestP2_2To6Power(t *testing.T) {
	r, a := example(), air()
	if s, e := Has(r, a); s != span(1100, 1200) || e != api.OK {
		t.Errorf("Has = %v, %d", s, e)
	}
	if s, e := Needs(r, a, alone(20)); s != span(400, 725) || e != api.OK {
		t.Errorf("Needs = %v, %d", s, e)
	}
	if s, e := Needs(r, a, alone(0)); s != span(280, 580) || e != api.OK {
		t.Errorf("Needs near the ground = %v, %d", s, e)
	}
	for _, c := range [][2]int{{20, 375}, {0, 520}} {
		if n, e := Margin(r, a, alone(c[0])); n != c[1] || e != api.OK {
			t.Errorf("Margin at %d = %d, %d", c[0], n, e)
		}
	}
	if s, e := Level(r, a, alone(50)); s != span(250, 375) || e != api.OK {
		t.Errorf("Level = %v, %d", s, e)
	}
	if s, e := Flow(r, a, alone(50)); s != span(50, 75) || e != api.OK {
		t.Errorf("Flow = %v, %d", s, e)
	}
	r.Burn = 3
	if s, e := Flow(r, a, alone(50)); s != span(0, 2) || e != api.OK {
		t.Errorf("Flow, rounded = %v, %d", s, e)
	}
	a.Weight = alone(2000)
	a.Temp = alone(40)
	if n, e := Margin(r, a, alone(20)); n != -100 || e != api.OK {
		t.Errorf("Margin of a heavy one = %d, %d", n, e)
	}
}

func TestNeedsIsRoundedOutwards(t *testing.T) {
	r := example()
	r.Hover.Values = [][]int{{333, 333}, {333, 333}}
	if s, e := Needs(r, air(), span(0, 20)); s != span(233, 333) || e != api.OK {
		t.Errorf("Needs = %v, %d", s, e)
	}
	if s, e := Needs(r, air(), alone(0)); s != span(233, 267) || e != api.OK {
		t.Errorf("Needs = %v, %d", s, e)
	}
}

func TestP2_5Heaviest(t *testing.T) {
	r, a := example(), air()
	for _, c := range []struct {
		reserve, want int
		e             api.Errno
	}{{400, 1454, api.OK}, {300, 1500, api.OK}, {math.MinInt, 1500, api.OK}, {math.MaxInt, 0, api.ErrNone}, {650, 1000, api.OK}, {651, 0, api.ErrNone}} {
		if n, e := Heaviest(r, a, alone(20), c.reserve); n != c.want || e != c.e {
			t.Errorf("Heaviest with %d = %d, %d", c.reserve, n, e)
		}
	}
}

func TestP2_7To9Climb(t *testing.T) {
	r, a := example(), air()
	for _, c := range [][2]int{{50, 72}, {0, 45}} {
		if n, e := Rate(r, a, c[0]); n != c[1] || e != api.OK {
			t.Errorf("Rate at %d = %d, %d", c[0], n, e)
		}
	}
	if speed, rate, e := Best(r, a); speed != 50 || rate != 72 || e != api.OK {
		t.Errorf("Best = %d, %d, %d", speed, rate, e)
	}
	if n, e := Fast(r, a); n != 100 || e != api.OK {
		t.Errorf("Fast = %d, %d", n, e)
	}
	r.Climb = 1000
	if speed, rate, e := Best(r, a); speed != 0 || rate != 0 || e != api.OK {
		t.Errorf("Best of several = %d, %d, %d", speed, rate, e)
	}
	r.Power.Values = [][]int{{300, 300}, {300, 300}}
	if n, e := Rate(r, a, 50); n != -1 || e != api.OK {
		t.Errorf("Rate below 0 = %d, %d", n, e)
	}
	if n, e := Fast(r, a); n != 0 || e != api.ErrNone {
		t.Errorf("Fast of a weak one = %d, %d", n, e)
	}
	r = example()
	r.Never.Values = [][]int{{62, 62}, {62, 62}}
	if n, e := Fast(r, a); n != 62 || e != api.OK {
		t.Errorf("Fast that never exceeds 62 = %d, %d", n, e)
	}
}

func TestP2_10Wake(t *testing.T) {
	for _, c := range []struct {
		speed, sink api.Span
		want        bool
	}{{span(0, 10), span(3, 4), false}, {span(0, 10), span(3, 5), true}, {alone(0), span(17, 99), true}, {alone(0), span(18, 99), false}, {alone(30), alone(13), true}, {alone(30), alone(11), false}, {alone(30), alone(14), false}, {alone(0), span(0, 99), true}} {
		if is, e := Wake(example(), air(), c.speed, c.sink); is != c.want || e != api.OK {
			t.Errorf("Wake(%v, %v) = %v, %d", c.speed, c.sink, is, e)
		}
	}
}

func TestP2_11Descent(t *testing.T) {
	slow := api.Drop{Speed: span(20, 30), Sink: span(2, 4), Ticks: 10}
	stopped := api.Drop{Speed: alone(0), Sink: span(1, 2), Ticks: 5}
	with := func(change func(d *api.Drop)) api.Drop {
		d := slow
		change(&d)
		return d
	}
	great := api.Drop{Speed: alone(0), Sink: alone(api.MaxValue), Ticks: 1}
	for i, c := range []struct {
		l    []api.Drop
		want api.Span
		at   int
		e    api.Errno
	}{
		{nil, span(0, 0), 0, api.OK},
		{[]api.Drop{slow, stopped}, span(25, 50), 0, api.OK},
		{[]api.Drop{with(func(d *api.Drop) { d.Ticks = 0 })}, span(0, 0), 0, api.OK},
		{[]api.Drop{great}, alone(api.MaxValue), 0, api.OK},
		{[]api.Drop{great, great}, api.Span{}, 0, api.ErrMany},
		{[]api.Drop{with(func(d *api.Drop) { d.Speed = span(40, 60) })}, api.Span{}, 0, api.ErrArg},
		{[]api.Drop{slow, with(func(d *api.Drop) { d.Speed = span(-1, 0) })}, api.Span{}, 1, api.ErrArg},
		{[]api.Drop{slow, slow, with(func(d *api.Drop) { d.Ticks = -1 })}, api.Span{}, 2, api.ErrArg},
		{[]api.Drop{slow, with(func(d *api.Drop) { d.Ticks = 1001 })}, api.Span{}, 1, api.ErrArg},
		{[]api.Drop{slow, with(func(d *api.Drop) { d.Sink = span(1, 0) })}, api.Span{}, 1, api.ErrArg},
		{[]api.Drop{with(func(d *api.Drop) { d.Speed = span(9, 8) })}, api.Span{}, 0, api.ErrArg},
		{[]api.Drop{slow, with(func(d *api.Drop) { d.Sink = span(2, 12) })}, api.Span{}, 1, api.ErrRing},
		{[]api.Drop{with(func(d *api.Drop) { d.Sink, d.Ticks = span(2, 12), 0 })}, api.Span{}, 0, api.ErrRing},
		{[]api.Drop{with(func(d *api.Drop) { d.Sink, d.Ticks = span(2, 12), 2000 })}, api.Span{}, 0, api.ErrArg},
		{slices.Repeat([]api.Drop{slow}, 50), span(1000, 2000), 0, api.OK},
		{slices.Repeat([]api.Drop{{Ticks: -1}}, 51), api.Span{}, 0, api.ErrMany},
	} {
		if s, at, e := Descent(example(), air(), c.l); s != c.want || at != c.at || e != c.e {
			t.Errorf("%d: Descent = %v, %d, %d", i, s, at, e)
		}
	}
	a := air()
	a.Weight = span(999, 1000)
	if s, at, e := Descent(example(), a, slices.Repeat([]api.Drop{slow}, 51)); s != (api.Span{}) || at != 0 || e != api.ErrArg {
		t.Errorf("Descent of a light one = %v, %d, %d", s, at, e)
	}
}

func TestP2_12Glide(t *testing.T) {
	if ticks, far, e := Glide(example(), air(), 60, 180); ticks != span(9, 10) || far != span(540, 600) || e != api.OK {
		t.Errorf("Glide = %v, %v, %d", ticks, far, e)
	}
	if ticks, far, e := Glide(example(), air(), 60, 0); ticks != alone(0) || far != alone(0) || e != api.OK {
		t.Errorf("Glide from 0 = %v, %v, %d", ticks, far, e)
	}
	for _, c := range []struct {
		speed, height int
		e             api.Errno
	}{{29, 1, api.ErrArg}, {91, 1, api.ErrArg}, {60, -1, api.ErrArg}, {60, 1000001, api.ErrArg}, {math.MaxInt, math.MinInt, api.ErrArg}, {60, 1000000, api.ErrMany}} {
		if ticks, far, e := Glide(example(), air(), c.speed, c.height); ticks != (api.Span{}) || far != (api.Span{}) || e != c.e {
			t.Errorf("Glide(%d, %d) = %v, %v, %d", c.speed, c.height, ticks, far, e)
		}
	}
	r := example()
	r.Glide.X[0] = -30
	if _, _, e := Glide(r, air(), -1, 1); e != api.ErrArg {
		t.Errorf("Glide backwards: %d", e)
	}
}

// calls are all functions with an air, with arguments of the example.
func calls() map[string]func(r api.Rotor, a api.Air, s api.Span) api.Errno {
	return map[string]func(r api.Rotor, a api.Air, s api.Span) api.Errno{
		"Needs":    func(r api.Rotor, a api.Air, s api.Span) api.Errno { _, e := Needs(r, a, s); return e },
		"Has":      func(r api.Rotor, a api.Air, s api.Span) api.Errno { _, e := Has(r, a); return e },
		"Margin":   func(r api.Rotor, a api.Air, s api.Span) api.Errno { _, e := Margin(r, a, s); return e },
		"Heaviest": func(r api.Rotor, a api.Air, s api.Span) api.Errno { _, e := Heaviest(r, a, s, 0); return e },
		"Level":    func(r api.Rotor, a api.Air, s api.Span) api.Errno { _, e := Level(r, a, s); return e },
		"Flow":     func(r api.Rotor, a api.Air, s api.Span) api.Errno { _, e := Flow(r, a, s); return e },
		"Rate":     func(r api.Rotor, a api.Air, s api.Span) api.Errno { _, e := Rate(r, a, s.Low); return e },
		"Best":     func(r api.Rotor, a api.Air, s api.Span) api.Errno { _, _, e := Best(r, a); return e },
		"Fast":     func(r api.Rotor, a api.Air, s api.Span) api.Errno { _, e := Fast(r, a); return e },
		"Wake":     func(r api.Rotor, a api.Air, s api.Span) api.Errno { _, e := Wake(r, a, s, alone(1)); return e },
		"Descent":  func(r api.Rotor, a api.Air, s api.Span) api.Errno { _, _, e := Descent(r, a, nil); return e },
		"Glide":    func(r api.Rotor, a api.Air, s api.Span) api.Errno { _, _, e := Glide(r, a, 40, 10); return e },
	}
}

func TestErrorsInTheirOrder(t *testing.T) {
	for name, call := range calls() {
		if e := call(example(), air(), span(1, 20)); e != api.OK {
			t.Errorf("%s: %d", name, e)
		}
		if e := call(api.Rotor{}, api.Air{Weight: span(1, 0)}, span(1, 0)); e != api.ErrRotor {
			t.Errorf("%s without a rotor: %d", name, e)
		}
		for i := range 4 {
			a := air()
			*[]*api.Span{&a.Weight, &a.Temp, &a.Height, &a.Wind}[i] = span(1, 0)
			if e := call(example(), a, span(1, 0)); e != api.ErrAir {
				t.Errorf("%s with an air that is not valid at %d: %d", name, i, e)
			}
		}
	}
	for name, needed := range map[string]string{ // which of weight, temperature, altitude and wind are looked up
		"Needs": "wtx", "Has": "th", "Margin": "wthx", "Heaviest": "wthx", "Level": "w", "Flow": "w", "Rate": "wth", "Best": "wth", "Fast": "wth", "Wake": "w", "Descent": "w", "Glide": "w",
	} {
		for i, letter := range "wthx" {
			for _, beyond := range []int{-1, 5001} {
				a := air()
				s := []*api.Span{&a.Weight, &a.Temp, &a.Height, &a.Wind}[i]
				*s = span(min(s.Low, beyond), max(s.High, beyond))
				want := api.OK
				if slices.Contains([]rune(needed), letter) {
					want = api.ErrArg
				}
				if e := calls()[name](example(), a, alone(10)); e != want {
					t.Errorf("%s with %c at %d: %d", name, letter, beyond, e)
				}
			}
		}
	}
	for _, name := range []string{"Needs", "Margin", "Heaviest", "Level", "Flow", "Wake"} {
		for _, s := range []api.Span{span(1, 0), span(-1, 5), span(5, 101), span(math.MinInt, math.MaxInt)} {
			if e := calls()[name](example(), air(), s); e != api.ErrArg {
				t.Errorf("%s of %v: %d", name, s, e)
			}
		}
	}
	for _, n := range []int{-1, 101, math.MaxInt, math.MinInt} {
		if _, e := Rate(example(), air(), n); e != api.ErrArg {
			t.Errorf("Rate at %d: %d", n, e)
		}
	}
	if _, e := Wake(example(), air(), alone(1), span(1, 0)); e != api.ErrArg {
		t.Errorf("Wake without a sink: %d", e)
	}
}

// TestBestAndFastOfEachSpeed compares with each speed of many small rotors.
func TestBestAndFastOfEachSpeed(t *testing.T) {
	r := rand.New(rand.NewSource(1))
	for range 300 {
		m, a := random(r), randomAir(r)
		never, _ := spans.Bound(m.Never, a.Weight, a.Temp)
		best, most, fast := -3, math.MinInt, math.MinInt
		for speed := -3; speed <= 20; speed++ {
			rate, e := Rate(m, a, speed)
			if e != api.OK {
				t.Fatal(e)
			}
			if rate > most {
				best, most = speed, rate
			}
			if rate >= 0 && speed <= never.Low {
				fast = speed
			}
		}
		if speed, rate, e := Best(m, a); speed != best || rate != most || e != api.OK {
			t.Fatalf("Best = %d, %d, %d, want %d, %d", speed, rate, e, best, most)
		}
		speed, e := Fast(m, a)
		if (e == api.OK) != (fast > math.MinInt) || e == api.OK && speed != fast || e != api.OK && (speed != 0 || e != api.ErrNone) {
			t.Fatalf("Fast = %d, %d, want %d", speed, e, fast)
		}
	}
}

func TestP2_13SmallerAir(t *testing.T) {
	r := rand.New(rand.NewSource(2))
	within := func(a, b api.Span) bool { return a.Low >= b.Low && a.High <= b.High }
	for range 300 {
		m, a := random(r), randomAir(r)
		b, above, speed := smaller(r, a), inside(r, span(0, 6)), inside(r, span(0, 10))
		for _, f := range []func(a api.Air) api.Span{
			func(a api.Air) api.Span { s, _ := Needs(m, a, above); return s },
			func(a api.Air) api.Span { s, _ := Has(m, a); return s },
			func(a api.Air) api.Span { s, _ := Level(m, a, speed); return s },
			func(a api.Air) api.Span { s, _ := Flow(m, a, speed); return s },
		} {
			if !within(f(b), f(a)) {
				t.Fatalf("%v in the smaller air, %v in the whole one", f(b), f(a))
			}
		}
		reserve := r.Intn(30)
		for _, f := range []func(a api.Air) int{
			func(a api.Air) int { n, _ := Margin(m, a, above); return n },
			func(a api.Air) int { n, _ := Rate(m, a, speed.Low); return n },
		} {
			if f(b) < f(a) {
				t.Fatalf("%d in the smaller air, %d in the whole one", f(b), f(a))
			}
		}
		sink := inside(r, span(0, 20))
		before, _ := Wake(m, a, speed, sink)
		if now, _ := Wake(m, b, speed, sink); now && !before {
			t.Fatal("a wake in the smaller air alone")
		}
		b.Weight.Low = a.Weight.Low
		if w, e := Heaviest(m, a, above, reserve); e == api.OK {
			if v, e := Heaviest(m, b, above, reserve); v < min(w, b.Weight.High) || e != api.OK {
				t.Fatalf("Heaviest is %d, %d in the smaller air, %d in the whole one", v, e, w)
			}
		}
	}
}

func TestP2_14TheMarginIsKept(t *testing.T) {
	r := rand.New(rand.NewSource(3))
	for range 1000 {
		m, a, above := random(r), randomAir(r), inside(r, span(0, 6))
		margin, e := Margin(m, a, above)
		if e != api.OK {
			t.Fatal(e)
		}
		pick := func(s api.Span) int { return s.Low + r.Intn(s.High-s.Low+1) }
		weight, temp, height, wind, over := pick(a.Weight), pick(a.Temp), pick(a.Height), pick(a.Wind), pick(above)
		hover, _ := spans.At(m.Hover, weight, temp)
		ground, _ := spans.At(m.Ground, over, wind)
		power, _ := spans.At(m.Power, temp, height)
		if needed := (hover.High*ground.High + 99) / 100; power.Low-needed < margin {
			t.Fatalf("a margin of %d, but there is %d and %d is needed", margin, power.Low, needed)
		}
		single := api.Air{Weight: alone(weight), Temp: alone(temp), Height: alone(height), Wind: alone(wind)}
		if n, e := Margin(m, single, alone(over)); n < margin || e != api.OK {
			t.Fatalf("a margin of %d, %d of a single condition, %d of all", n, e, margin)
		}
	}
}

func TestP2_15HeaviestIsTheLast(t *testing.T) {
	r := rand.New(rand.NewSource(4))
	for range 300 {
		m, a, above, reserve := random(r), randomAir(r), inside(r, span(0, 6)), r.Intn(30)
		want, e := 0, api.ErrNone
		for w := a.Weight.Low; w <= a.Weight.High; w++ {
			b := a
			b.Weight.High = w
			if n, _ := Margin(m, b, above); n >= reserve {
				want, e = w, api.OK
			}
		}
		if w, got := Heaviest(m, a, above, reserve); w != want || got != e {
			t.Fatalf("Heaviest = %d, %d, want %d, %d", w, got, want, e)
		}
	}
}

func TestP2_16OutOfTheWake(t *testing.T) {
	r := rand.New(rand.NewSource(5))
	for range 400 {
		m, a := random(r), randomAir(r)
		var l []api.Drop
		for range r.Intn(5) {
			l = append(l, api.Drop{Speed: inside(r, span(0, 10)), Sink: inside(r, span(0, 3)), Ticks: r.Intn(5)})
		}
		lost, _, e := Descent(m, a, l)
		if e != api.OK {
			continue
		}
		for _, d := range l {
			for speed := d.Speed.Low; speed <= d.Speed.High; speed++ {
				if is, _ := Wake(m, a, alone(speed), d.Sink); is {
					t.Fatalf("%v is in the wake", d)
				}
			}
		}
		n := r.Intn(len(l) + 1)
		one, _, _ := Descent(m, a, l[:n])
		two, _, _ := Descent(m, a, l[n:])
		if lost != span(one.Low+two.Low, one.High+two.High) {
			t.Fatalf("both lose %v and %v, together %v", one, two, lost)
		}
	}
}

func TestP2_17GlideFromAbove(t *testing.T) {
	r := rand.New(rand.NewSource(6))
	for range 100 {
		m, a, speed := random(r), randomAir(r), r.Intn(21)
		sink, _ := spans.Bound(m.Glide, alone(speed), a.Weight)
		var last, lastFar api.Span
		for height := range 60 {
			ticks, far, e := Glide(m, a, speed, height)
			if e != api.OK || ticks.Low < last.Low || ticks.High < last.High || far.Low < lastFar.Low || far.High < lastFar.High {
				t.Fatalf("Glide from %d = %v, %v, %d", height, ticks, far, e)
			}
			low, high, lowFar, highFar := math.MaxInt, 0, math.MaxInt, 0
			for s := sink.Low; s <= sink.High; s++ {
				low, high = min(low, height/s), max(high, (height+s-1)/s)
				lowFar, highFar = min(lowFar, speed*height/s), max(highFar, (speed*height+s-1)/s)
			}
			if ticks != span(low, high) || far != span(lowFar, highFar) {
				t.Fatalf("Glide from %d at %d = %v, %v with the sink %v", height, speed, ticks, far, sink)
			}
			last, lastFar = ticks, far
		}
	}
}

func TestNothingIsChanged(t *testing.T) {
	r := example()
	if _, _, e := Best(r, air()); e != api.OK {
		t.Fatal(e)
	}
	if want := example(); !slices.Equal(r.Level.X, want.Level.X) || !slices.Equal(r.Level.Values[0], want.Level.Values[0]) || !slices.Equal(r.Level.Values[2], want.Level.Values[2]) {
		t.Error("Best changes the rotor")
	}
}

func TestTheGreatestAndTheLeast(t *testing.T) {
	for _, n := range []int{0, api.MaxPower} {
		r := example()
		for _, row := range r.Level.Values {
			row[0], row[1] = n, n
		}
		r.Ground.Values[0][0], r.Power.Values[0][0], r.RingLow.Values[0][0], r.RingHigh.Values[0][0] = 0, 0, 0, 0
		if e := Check(r); e != api.OK {
			t.Fatalf("Check = %d", e)
		}
		r = example()
		for _, row := range r.Level.Values {
			row[0], row[1] = n, n
		}
		if speed, rate, e := Best(r, air()); speed != 0 || rate != (1100-n)/10 || e != api.OK {
			t.Errorf("Best with %d everywhere = %d, %d, %d", n, speed, rate, e)
		}
	}
	long := []api.Drop{{Speed: alone(0), Sink: alone(1), Ticks: api.MaxTicks}}
	if s, at, e := Descent(example(), air(), long); s != alone(1000) || at != 0 || e != api.OK {
		t.Errorf("Descent of many ticks = %v, %d, %d", s, at, e)
	}
	a := air()
	a.Weight = alone(1000)
	one := example()
	one.Level.X = []int{100, 150, 200}
	if n, e := Fast(one, a); n != 115 || e != api.OK {
		t.Errorf("Fast near the first knot = %d, %d", n, e)
	}
	one.Never.Values = [][]int{{100, 100}, {100, 100}}
	if n, e := Fast(one, a); n != 100 || e != api.OK {
		t.Errorf("Fast at the first knot = %d, %d", n, e)
	}
	one.Never.Values = [][]int{{99, 99}, {99, 99}}
	if n, e := Fast(one, a); n != 0 || e != api.ErrNone {
		t.Errorf("Fast below the first knot = %d, %d", n, e)
	}
}
