package rotor

import (
	"swashplate/api"
	"swashplate/check"
	"swashplate/whole"
)

// sinking returns a machine that can be asked for its wake at a speed.
func sinking(r api.Rotor, a api.Air, speed api.Span, further ...api.Span) (machine, api.Errno) {
	return ready(r, a, func(m machine) []look { return []look{m.ring(m.RingLow, speed)} }, append(further, speed)...)
}

// wake reports whether it may sink into its own wake.
func (m machine) wake(speed, sink api.Span) bool {
	return sink.High >= m.ring(m.RingLow, speed).bound().Low && sink.Low <= m.ring(m.RingHigh, speed).bound().High
}

// Wake reports whether it may sink into its own wake.
func Wake(r api.Rotor, a api.Air, speed, sink api.Span) (bool, api.Errno) {
	m, e := sinking(r, a, speed, sink)
	if e != api.OK {
		return false, e
	}
	return m.wake(speed, sink), api.OK
}

// Descent returns the height that is lost in drops.
func Descent(r api.Rotor, a api.Air, l []api.Drop) (lost api.Span, at int, e api.Errno) {
	m, e := ready(r, a, func(m machine) []look { return []look{m.ring(m.RingLow, alone(m.RingLow.X[0]))} })
	if e != api.OK {
		return api.Span{}, 0, e
	}
	if len(l) > api.MaxDrops {
		return api.Span{}, 0, api.ErrMany
	}
	for i, d := range l {
		if e := m.drops(d); e != api.OK {
			return api.Span{}, i, e
		}
		lost = span(lost.Low+d.Sink.Low*d.Ticks, lost.High+d.Sink.High*d.Ticks)
	}
	if !check.Spans(lost) {
		return api.Span{}, 0, api.ErrMany
	}
	return lost, 0, api.OK
}

// drops returns the errors of a drop.
func (m machine) drops(d api.Drop) api.Errno {
	if !whole.Within(0, api.MaxTicks, d.Ticks) || !check.Spans(d.Speed, d.Sink) || !m.ring(m.RingLow, d.Speed).lies() {
		return api.ErrArg
	}
	if m.wake(d.Speed, d.Sink) {
		return api.ErrRing
	}
	return api.OK
}
