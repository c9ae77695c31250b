package rotor

import (
	"slices"

	"swashplate/api"
	"swashplate/spans"
	"swashplate/whole"
)

// climbing returns a machine that can be asked for its rate at any speed of its table, besides what looks names.
func climbing(r api.Rotor, a api.Air, looks func(m machine) []look, further ...api.Span) (machine, api.Errno) {
	return ready(r, a, func(m machine) []look { return append(looks(m), m.power(), m.level(alone(m.Level.X[0]))) }, further...)
}

// rate returns the rate of climb if so much power is needed.
func (m machine) rate(needed int) int { return whole.Floor(m.power().bound().Low-needed, m.Climb) }

// Rate returns the rate of climb that is sure at a speed.
func Rate(r api.Rotor, a api.Air, speed int) (int, api.Errno) {
	at := alone(speed)
	m, e := climbing(r, a, func(m machine) []look { return []look{m.level(at)} }, at)
	if e != api.OK {
		return 0, e
	}
	return m.rate(m.level(at).bound().High), api.OK
}

// Best returns the lowest speed with the greatest rate of climb, and this rate.
func Best(r api.Rotor, a api.Air) (speed, rate int, e api.Errno) {
	m, e := climbing(r, a, func(m machine) []look { return nil })
	if e != api.OK {
		return 0, 0, e
	}
	enough := func(power int) bool {
		_, e := spans.Greatest(m.Level, m.Weight, power)
		return e == api.OK
	}
	least, _ := whole.First(0, api.MaxPower, enough)
	rate = m.rate(least)
	// With a bit more power than the least the rate may still be the same, at a lower speed.
	spare := m.power().bound().Low - rate*m.Climb
	mirrored, _ := spans.Greatest(mirror(m.Level), m.Weight, spare)
	return -mirrored, rate, api.OK
}

// mirror returns a table with the opposite knots of X: what is greatest there is least here.
func mirror(t api.Table) api.Table {
	var x []int
	for _, n := range slices.Backward(t.X) {
		x = append(x, -n)
	}
	values := slices.Clone(t.Values)
	slices.Reverse(values)
	return api.Table{X: x, Y: t.Y, Values: values}
}

// Fast returns the greatest speed in level flight.
func Fast(r api.Rotor, a api.Air) (int, api.Errno) {
	m, e := climbing(r, a, func(m machine) []look { return []look{m.never()} })
	if e != api.OK {
		return 0, e
	}
	most, power := m.never().bound().Low, m.power().bound().Low
	for i := len(m.Level.X) - 2; i >= 0; i-- {
		if speed, is := m.fastest(i, most, power); is {
			return speed, api.OK
		}
	}
	return 0, api.ErrNone
}

// fastest returns the greatest speed from the knot i of Level to the next one, at most most, for which a power is enough. Between two knots the speeds for which it is are a span: if it is not for most, they all lie on one side of it.
func (m machine) fastest(i, most, power int) (int, bool) {
	first, last := m.Level.X[i], min(m.Level.X[i+1], most)
	if first > last {
		return 0, false
	}
	if m.level(alone(last)).bound().High <= power {
		return last, true
	}
	between := api.Table{X: m.Level.X[i : i+2], Y: m.Level.Y, Values: m.Level.Values[i : i+2]}
	speed, e := spans.Greatest(between, m.Weight, power)
	return speed, e == api.OK && speed <= last
}
