package crew

import (
	"iter"

	"swashplate/api"
	"swashplate/check"
	"swashplate/rotor"
	"swashplate/whole"
)

// checkCabin returns ErrCabin unless a cabin is valid.
func checkCabin(c api.Cabin) api.Errno {
	right := whole.Within(1, api.MaxEmpty, c.Empty) && len(c.Seats) <= api.MaxSeats &&
		whole.Within(-api.MaxArm, api.MaxArm, c.Arm, c.FuelArm, c.Low, c.High) && c.Low <= c.High
	for _, s := range c.Seats {
		right = right && whole.Within(-api.MaxArm, api.MaxArm, s.Arm)
	}
	if !right {
		return api.ErrCabin
	}
	return api.OK
}

// checkGuests returns ErrMany if there are more guests than may be, and ErrGuest unless all are valid.
func checkGuests(l []api.Guest, most int) api.Errno {
	if len(l) > most {
		return api.ErrMany
	}
	for _, g := range l {
		if !whole.Within(1, api.MaxGuest, g.Weight) || !check.Ticks(g.Dive) {
			return api.ErrGuest
		}
	}
	return api.OK
}

// checkLoad returns the errors of a cabin, guests and fuel.
func checkLoad(c api.Cabin, l []api.Guest, fuel api.Span) api.Errno {
	if e := checkCabin(c); e != api.OK {
		return e
	}
	if e := checkGuests(l, len(c.Seats)); e != api.OK {
		return e
	}
	if !check.Inside(0, api.MaxEmpty, fuel) {
		return api.ErrSpan
	}
	return api.OK
}

// checkSeating returns the errors of a cabin, guests, fuel and a seating.
func checkSeating(c api.Cabin, l []api.Guest, seating []int, fuel api.Span) api.Errno {
	if e := checkLoad(c, l, fuel); e != api.OK {
		return e
	}
	if len(seating) != len(l) || !whole.Within(0, len(c.Seats)-1, seating...) {
		return api.ErrArg
	}
	for i, seat := range seating {
		if !free(c, l[i], seat, seating[:i]) {
			return api.ErrArg
		}
	}
	return api.OK
}

// free reports whether a guest may sit on a seat beside those who sit.
func free(c api.Cabin, g api.Guest, seat int, taken []int) bool {
	for _, t := range taken {
		if t == seat {
			return false
		}
	}
	return g.Able || !c.Seats[seat].Exit
}

// ends goes through the ends of the fuel: between them the center moves in one direction.
func ends(fuel api.Span) iter.Seq[int] {
	return func(yield func(int) bool) {
		if yield(fuel.Low) {
			yield(fuel.High)
		}
	}
}

// weigh returns the weight and the moment with some fuel.
func weigh(c api.Cabin, l []api.Guest, seating []int, fuel int) (weight, moment int) {
	weight, moment = c.Empty+fuel, c.Empty*c.Arm+fuel*c.FuelArm
	for i, seat := range seating {
		weight += l[i].Weight
		moment += l[i].Weight * c.Seats[seat].Arm
	}
	return weight, moment
}

// balanced reports whether a right seating is balanced.
func balanced(c api.Cabin, l []api.Guest, seating []int, fuel api.Span) bool {
	for f := range ends(fuel) {
		weight, moment := weigh(c, l, seating, f)
		if !whole.Within(c.Low*weight, c.High*weight, moment) {
			return false
		}
	}
	return true
}

// Wet returns the guests who may not fly over water.
func Wet(l []api.Guest, tick int) ([]int, api.Errno) {
	if e := checkGuests(l, api.MaxSeats); e != api.OK {
		return nil, e
	}
	if !check.Ticks(tick) {
		return nil, api.ErrArg
	}
	var wet []int
	for i, g := range l {
		if !g.Suit || g.Dive < tick {
			wet = append(wet, i)
		}
	}
	return wet, api.OK
}

// Loaded returns the span of all weights.
func Loaded(c api.Cabin, l []api.Guest, fuel api.Span) (api.Span, api.Errno) {
	if e := checkLoad(c, l, fuel); e != api.OK {
		return api.Span{}, e
	}
	weight := c.Empty
	for _, g := range l {
		weight += g.Weight
	}
	return api.Span{Low: weight + fuel.Low, High: weight + fuel.High}, api.OK
}

// Center returns the span of all centers of gravity.
func Center(c api.Cabin, l []api.Guest, seating []int, fuel api.Span) (api.Span, api.Errno) {
	if e := checkSeating(c, l, seating, fuel); e != api.OK {
		return api.Span{}, e
	}
	s := api.Span{Low: api.MaxArm, High: -api.MaxArm}
	for f := range ends(fuel) {
		weight, moment := weigh(c, l, seating, f)
		s.Low = min(s.Low, whole.Floor(moment, weight))
		s.High = max(s.High, whole.Ceil(moment, weight))
	}
	return s, api.OK
}

// Balanced reports whether a seating is balanced.
func Balanced(c api.Cabin, l []api.Guest, seating []int, fuel api.Span) (bool, api.Errno) {
	if e := checkSeating(c, l, seating, fuel); e != api.OK {
		return false, e
	}
	return balanced(c, l, seating, fuel), api.OK
}

// Sit returns a seating that is balanced: the first one, if seats are tried from the lowest one on.
func Sit(c api.Cabin, l []api.Guest, fuel api.Span) ([]int, api.Errno) {
	if e := checkLoad(c, l, fuel); e != api.OK {
		return nil, e
	}
	var seating []int
	var extend func() bool
	extend = func() bool {
		n := len(seating)
		if n == len(l) {
			return balanced(c, l, seating, fuel)
		}
		for seat := range c.Seats {
			if !free(c, l[n], seat, seating[:n]) {
				continue
			}
			seating = append(seating[:n], seat)
			if extend() {
				return true
			}
		}
		seating = seating[:n]
		return false
	}
	if !extend() {
		return nil, api.ErrNone
	}
	return seating, api.OK
}

// Lifts returns the margin of power with which a helicopter lifts its guests.
func Lifts(h api.Rotor, a api.Air, above api.Span, c api.Cabin, l []api.Guest, fuel api.Span) (margin int, e api.Errno) {
	weight, e := Loaded(c, l, fuel)
	if e != api.OK {
		return 0, e
	}
	a.Weight = weight
	return rotor.Margin(h, a, above)
}
