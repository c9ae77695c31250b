package crew

import (
	"math"
	"math/big"
	"math/rand"
	"slices"
	"testing"

	"swashplate/api"
	"swashplate/rotor"
	"swashplate/samples"
)

func span(low, high int) api.Span { return api.Span{Low: low, High: high} }

func cabin() api.Cabin { return samples.Cabin() }

func guests() []api.Guest { return samples.Guests() }

func fuel() api.Span { return span(0, 200) }

func TestP10_6Wet(t *testing.T) {
	l := []api.Guest{{Weight: 80, Suit: true, Dive: 10}, {Weight: 80, Suit: true, Dive: 9}, {Weight: 80, Dive: 50}, {Weight: 80, Suit: true, Dive: 11}}
	for _, c := range []struct {
		l    []api.Guest
		tick int
		want []int
	}{{guests(), 10, []int{0, 1}}, {l, 10, []int{1, 2}}, {l, 0, []int{2}}, {l, 2000, []int{0, 1, 2, 3}}, {nil, 5, nil}, {slices.Repeat(l[:1], 8), 10, nil}} {
		if got, e := Wet(c.l, c.tick); !slices.Equal(got, c.want) || e != api.OK {
			t.Errorf("Wet of %v at %d = %v, %d", c.l, c.tick, got, e)
		}
	}
	for _, c := range []struct {
		l    []api.Guest
		tick int
		e    api.Errno
	}{{make([]api.Guest, 9), -1, api.ErrMany}, {make([]api.Guest, 8), -1, api.ErrGuest}, {[]api.Guest{{Weight: 501}}, 0, api.ErrGuest}, {[]api.Guest{{Weight: 1, Dive: -1}}, 0, api.ErrGuest}, {[]api.Guest{{Weight: 1, Dive: 2001}}, 0, api.ErrGuest}, {nil, -1, api.ErrArg}, {nil, 2001, api.ErrArg}} {
		if got, e := Wet(c.l, c.tick); got != nil || e != c.e {
			t.Errorf("Wet of %v at %d = %v, %d", c.l, c.tick, got, e)
		}
	}
}

func TestP10_7To10Cabin(t *testing.T) {
	if s, e := Loaded(cabin(), guests(), fuel()); s != span(1180, 1380) || e != api.OK {
		t.Errorf("Loaded = %v, %d", s, e)
	}
	for _, c := range []struct {
		seating  []int
		want     api.Span
		balanced bool
	}{{[]int{1, 0}, span(-1, 2), true}, {[]int{2, 0}, span(4, 6), false}, {[]int{1, 2}, span(1, 3), true}} {
		if s, e := Center(cabin(), guests(), c.seating, fuel()); s != c.want || e != api.OK {
			t.Errorf("Center of %v = %v, %d", c.seating, s, e)
		}
		if is, e := Balanced(cabin(), guests(), c.seating, fuel()); is != c.balanced || e != api.OK {
			t.Errorf("Balanced of %v = %v, %d", c.seating, is, e)
		}
	}
	if l, e := Sit(cabin(), guests(), fuel()); !slices.Equal(l, []int{1, 0}) || e != api.OK {
		t.Errorf("Sit = %v, %d", l, e)
	}
	if l, e := Sit(cabin(), nil, fuel()); l != nil || e != api.OK {
		t.Errorf("Sit of nobody = %v, %d", l, e)
	}
	strict := cabin()
	strict.Low, strict.High = 900, 900
	if l, e := Sit(strict, guests(), fuel()); l != nil || e != api.ErrNone {
		t.Errorf("Sit where nothing is balanced = %v, %d", l, e)
	}
	all := cabin()
	all.Low, all.High = -1000, 1000
	if l, e := Sit(all, []api.Guest{{Weight: 1, Able: true}, {Weight: 1}, {Weight: 1, Able: true}}, fuel()); !slices.Equal(l, []int{0, 1, 2}) || e != api.OK {
		t.Errorf("Sit of three = %v, %d", l, e)
	}
	if l, e := Sit(all, []api.Guest{{Weight: 1}, {Weight: 1}, {Weight: 1}}, fuel()); l != nil || e != api.ErrNone {
		t.Errorf("Sit of three who cannot open an exit = %v, %d", l, e)
	}
}

func TestErrorsOfCabins(t *testing.T) {
	type f func(c api.Cabin, l []api.Guest, seating []int, fuel api.Span) api.Errno
	seated := map[string]f{
		"Center": func(c api.Cabin, l []api.Guest, seating []int, fuel api.Span) api.Errno {
			_, e := Center(c, l, seating, fuel)
			return e
		},
		"Balanced": func(c api.Cabin, l []api.Guest, seating []int, fuel api.Span) api.Errno {
			_, e := Balanced(c, l, seating, fuel)
			return e
		},
	}
	all := map[string]f{
		"Loaded": func(c api.Cabin, l []api.Guest, seating []int, fuel api.Span) api.Errno {
			_, e := Loaded(c, l, fuel)
			return e
		},
		"Sit": func(c api.Cabin, l []api.Guest, seating []int, fuel api.Span) api.Errno {
			_, e := Sit(c, l, fuel)
			return e
		},
		"Lifts": func(c api.Cabin, l []api.Guest, seating []int, fuel api.Span) api.Errno {
			_, e := Lifts(api.Rotor{}, api.Air{}, api.Span{}, c, l, fuel)
			return e
		},
		"Center": seated["Center"], "Balanced": seated["Balanced"],
	}
	for name, f := range all {
		for i, change := range []func(c *api.Cabin){
			func(c *api.Cabin) { c.Empty = 0 }, func(c *api.Cabin) { c.Empty = 100001 }, func(c *api.Cabin) { c.Seats = slices.Repeat(c.Seats, 3) },
			func(c *api.Cabin) { c.Arm = 1001 }, func(c *api.Cabin) { c.Arm = -1001 }, func(c *api.Cabin) { c.FuelArm = 1001 }, func(c *api.Cabin) { c.Low = -1001 }, func(c *api.Cabin) { c.High = 1001 },
			func(c *api.Cabin) { c.Seats[2].Arm = 1001 }, func(c *api.Cabin) { c.Seats[2].Arm = -1001 }, func(c *api.Cabin) { c.Low = 6 }, func(c *api.Cabin) { c.Arm = math.MinInt },
		} {
			c := cabin()
			change(&c)
			if e := f(c, make([]api.Guest, 4), nil, span(1, 0)); e != api.ErrCabin {
				t.Errorf("%s of the cabin %d: %d", name, i, e)
			}
		}
		if e := f(cabin(), make([]api.Guest, 4), nil, span(1, 0)); e != api.ErrMany {
			t.Errorf("%s: %d", name, e)
		}
		for _, g := range []api.Guest{{}, {Weight: 501}, {Weight: 1, Dive: -1}, {Weight: 1, Dive: 2001}} {
			if e := f(cabin(), []api.Guest{{Weight: 500, Dive: 2000}, g}, nil, span(1, 0)); e != api.ErrGuest {
				t.Errorf("%s of %v: %d", name, g, e)
			}
		}
		for _, s := range []api.Span{span(1, 0), span(-1, 0), span(0, 100001), span(math.MinInt, math.MaxInt)} {
			if e := f(cabin(), guests(), nil, s); e != api.ErrSpan {
				t.Errorf("%s with the fuel %v: %d", name, s, e)
			}
		}
	}
	for name, f := range seated {
		for _, seating := range [][]int{nil, {1}, {1, 0, 2}, {1, 1}, {1, 3}, {-1, 0}, {0, 1}, {math.MaxInt, 1}} {
			if e := f(cabin(), guests(), seating, fuel()); e != api.ErrArg {
				t.Errorf("%s of %v: %d", name, seating, e)
			}
		}
	}
}

func randomCabin(r *rand.Rand) (api.Cabin, []api.Guest, api.Span) {
	c := api.Cabin{Empty: 200 + r.Intn(500), Arm: r.Intn(21) - 10, FuelArm: r.Intn(41) - 20, Low: -r.Intn(12), High: r.Intn(12)}
	for range 1 + r.Intn(4) {
		c.Seats = append(c.Seats, api.Seat{Arm: r.Intn(201) - 100, Exit: r.Intn(3) == 0})
	}
	var l []api.Guest
	for range r.Intn(len(c.Seats) + 1) {
		l = append(l, api.Guest{Weight: 50 + r.Intn(60), Able: r.Intn(3) > 0})
	}
	low := r.Intn(30)
	return c, l, span(low, low+r.Intn(40))
}

// seatings returns all right seatings in order.
func seatings(c api.Cabin, l []api.Guest) [][]int {
	all := [][]int{nil}
	for _, g := range l {
		var next [][]int
		for _, s := range all {
			for seat := range c.Seats {
				if !slices.Contains(s, seat) && (g.Able || !c.Seats[seat].Exit) {
					next = append(next, append(slices.Clone(s), seat))
				}
			}
		}
		all = next
	}
	return all
}

func TestP10_15EveryAmountOfFuel(t *testing.T) {
	r := rand.New(rand.NewSource(3))
	found := 0
	for range 150 {
		c, l, fuel := randomCabin(r)
		var first []int
		known := false
		for _, s := range seatings(c, l) {
			center, e := Center(c, l, s, fuel)
			want := true
			hull := span(math.MaxInt, math.MinInt)
			for f := fuel.Low; f <= fuel.High; f++ {
				weight, moment := int64(c.Empty+f), int64(c.Empty*c.Arm+f*c.FuelArm)
				for i, seat := range s {
					weight, moment = weight+int64(l[i].Weight), moment+int64(l[i].Weight*c.Seats[seat].Arm)
				}
				x := big.NewRat(moment, weight)
				want = want && x.Cmp(big.NewRat(int64(c.Low), 1)) >= 0 && x.Cmp(big.NewRat(int64(c.High), 1)) <= 0
				down := int(new(big.Int).Div(x.Num(), x.Denom()).Int64())
				up := down
				if !x.IsInt() {
					up++
				}
				hull = span(min(hull.Low, down), max(hull.High, up))
			}
			if center != hull || e != api.OK {
				t.Fatalf("Center = %v, %d, want %v", center, e, hull)
			}
			if is, e := Balanced(c, l, s, fuel); is != want || e != api.OK {
				t.Fatalf("Balanced = %v, %d, want %v", is, e, want)
			}
			if is, _ := Balanced(c, l, s, span(fuel.Low, fuel.Low)); want && !is {
				t.Fatal("with less fuel it is not balanced")
			}
			if want && !known {
				first, known = s, true
			}
		}
		got, e := Sit(c, l, fuel)
		if known && (!slices.Equal(got, first) || e != api.OK) || !known && (got != nil || e != api.ErrNone) {
			t.Fatalf("Sit = %v, %d, want %v, %v", got, e, first, known)
		}
		if known {
			found++
		}
	}
	if found < 20 {
		t.Errorf("only %d cabins are balanced", found)
	}
}

func helicopter() (api.Rotor, api.Air) {
	a := samples.Air()
	a.Weight = span(1, 2)
	return samples.Rotor(), a
}

func TestP10_11And16Lifts(t *testing.T) {
	h, a := helicopter()
	above := span(20, 20)
	margin, e := Lifts(h, a, above, cabin(), guests(), fuel())
	whole := a
	whole.Weight = span(1180, 1380)
	if want, _ := rotor.Margin(h, whole, above); margin != want || e != api.OK {
		t.Errorf("Lifts = %d, %d, want %d", margin, e, want)
	}
	for weight := 1180; weight <= 1380; weight += 20 {
		whole.Weight = span(weight, weight)
		if n, e := rotor.Margin(h, whole, above); n < margin || e != api.OK {
			t.Errorf("Margin of %d = %d, %d, less than %d", weight, n, e, margin)
		}
	}
	if s, e := Loaded(cabin(), append(guests(), api.Guest{Weight: 77}), fuel()); s != span(1257, 1457) || e != api.OK {
		t.Errorf("Loaded with one more = %v, %d", s, e)
	}
	heavy := cabin()
	heavy.Empty = 1801
	if n, e := Lifts(h, a, above, heavy, guests(), fuel()); n != 0 || e != api.ErrArg {
		t.Errorf("Lifts of what is too heavy = %d, %d", n, e)
	}
	a.Weight = span(1, 0)
	if n, e := Lifts(h, a, above, cabin(), guests(), fuel()); n != margin || e != api.OK {
		t.Errorf("Lifts looks at the weight of the air: %d, %d", n, e)
	}
	a.Wind = span(1, 0)
	if n, e := Lifts(h, a, above, cabin(), guests(), fuel()); n != 0 || e != api.ErrAir {
		t.Errorf("Lifts in no wind = %d, %d", n, e)
	}
	if n, e := Lifts(api.Rotor{}, a, above, cabin(), guests(), fuel()); n != 0 || e != api.ErrRotor {
		t.Errorf("Lifts without a rotor = %d, %d", n, e)
	}
	if n, e := Lifts(api.Rotor{}, a, above, cabin(), guests(), span(1, 0)); n != 0 || e != api.ErrSpan {
		t.Errorf("Lifts without fuel = %d, %d", n, e)
	}
}

func TestTheGreatestCabin(t *testing.T) {
	c := api.Cabin{Empty: 100000, Arm: 1000, FuelArm: 1000, Low: -1000, High: 1000, Seats: slices.Repeat([]api.Seat{{Arm: 1000}}, 8)}
	l := slices.Repeat([]api.Guest{{Weight: 500, Dive: 2000}}, 8)
	if s, e := Loaded(c, l, span(99999, 100000)); s != span(203999, 204000) || e != api.OK {
		t.Errorf("Loaded = %v, %d", s, e)
	}
	seating := []int{7, 6, 5, 4, 3, 2, 1, 0}
	if s, e := Center(c, l, seating, span(0, 100000)); s != span(1000, 1000) || e != api.OK {
		t.Errorf("Center = %v, %d", s, e)
	}
	for i := range c.Seats {
		c.Seats[i].Arm = -1000
	}
	c.Arm, c.FuelArm = -1000, -1000
	if s, e := Center(c, l, seating, span(0, 100000)); s != span(-1000, -1000) || e != api.OK {
		t.Errorf("Center = %v, %d", s, e)
	}
	if s, e := Loaded(api.Cabin{Empty: 1}, nil, span(0, 0)); s != span(1, 1) || e != api.OK {
		t.Errorf("Loaded of the least = %v, %d", s, e)
	}
	if _, e := Loaded(api.Cabin{Empty: 1, Seats: make([]api.Seat, 9)}, nil, span(0, 0)); e != api.ErrCabin {
		t.Errorf("Loaded with nine seats: %d", e)
	}
}
