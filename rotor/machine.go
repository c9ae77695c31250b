package rotor

import (
	"slices"

	"swashplate/api"
	"swashplate/check"
	"swashplate/spans"
	"swashplate/whole"
)

func span(low, high int) api.Span { return api.Span{Low: low, High: high} }

func alone(n int) api.Span { return span(n, n) }

// Check returns ErrRotor unless a rotor is valid.
func Check(r api.Rotor) api.Errno {
	right := holds(r.Hover, 0, api.MaxPower) && holds(r.Ground, 0, 100) && holds(r.Level, 0, api.MaxPower) &&
		holds(r.Power, 0, api.MaxPower) && holds(r.Never, 0, api.MaxRate) &&
		holds(r.RingLow, 0, api.MaxRate) && holds(r.RingHigh, 0, api.MaxRate) && ringed(r.RingLow, r.RingHigh) &&
		holds(r.Glide, 1, api.MaxRate) && whole.Within(1, 1000, r.Climb, r.Burn)
	if !right {
		return api.ErrRotor
	}
	return api.OK
}

// holds reports whether a table is valid, with values from low to high.
func holds(t api.Table, low, high int) bool {
	if spans.CheckTable(t) != api.OK {
		return false
	}
	for _, row := range t.Values {
		if !whole.Within(low, high, row...) {
			return false
		}
	}
	return true
}

// ringed reports whether two tables have the same knots, and the first one is nowhere greater.
func ringed(low, high api.Table) bool {
	if !slices.Equal(low.X, high.X) || !slices.Equal(low.Y, high.Y) {
		return false
	}
	for i, row := range low.Values {
		for k, n := range row {
			if n > high.Values[i][k] {
				return false
			}
		}
	}
	return true
}

// machine is a rotor in an air.
type machine struct {
	api.Rotor
	api.Air
}

// look is a table that is looked up on a box.
type look struct {
	api.Table
	x, y api.Span
}

// lies reports whether the box of a look lies on its table.
func (l look) lies() bool { return check.OnAxis(l.X, l.x) && check.OnAxis(l.Y, l.y) }

// bound returns all values; the look lies on its table.
func (l look) bound() api.Span {
	s, _ := spans.Bound(l.Table, l.x, l.y)
	return s
}

// ready returns a machine with which the tables that looks names can be looked up; further are the spans that a call has besides the air.
func ready(r api.Rotor, a api.Air, looks func(m machine) []look, further ...api.Span) (machine, api.Errno) {
	m := machine{r, a}
	if e := Check(r); e != api.OK {
		return m, e
	}
	if !check.Spans(a.Weight, a.Temp, a.Height, a.Wind) {
		return m, api.ErrAir
	}
	if !check.Spans(further...) {
		return m, api.ErrArg
	}
	for _, l := range looks(m) {
		if !l.lies() {
			return m, api.ErrArg
		}
	}
	return m, api.OK
}

func (m machine) hover() look { return look{m.Hover, m.Weight, m.Temp} }

func (m machine) ground(above api.Span) look { return look{m.Ground, above, m.Wind} }

func (m machine) power() look { return look{m.Power, m.Temp, m.Height} }

func (m machine) level(speed api.Span) look { return look{m.Level, speed, m.Weight} }

func (m machine) never() look { return look{m.Never, m.Weight, m.Temp} }

func (m machine) ring(t api.Table, speed api.Span) look { return look{t, speed, m.Weight} }

func (m machine) glide(speed api.Span) look { return look{m.Glide, speed, m.Weight} }
