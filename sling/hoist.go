package sling

import (
	"slices"

	"swashplate/api"
	"swashplate/check"
	"swashplate/spans"
	"swashplate/whole"
)

// CheckHoist returns ErrHoist unless a hoist is valid.
func CheckHoist(h api.Hoist) api.Errno {
	if !whole.Within(1, api.MaxCable, h.Cable) || spans.CheckTable(h.Limits) != api.OK || !whole.Within(0, api.MaxHauls, h.Charge) {
		return api.ErrHoist
	}
	if x := h.Limits.X; x[0] > 0 || x[len(x)-1] < h.Cable {
		return api.ErrHoist
	}
	return api.OK
}

// winch is a hoist in some winds, how it stands, and whether its cable has ever been discharged.
type winch struct {
	api.Hoist
	api.Hang
	winds   api.Span
	touched bool
}

// checkWinch returns the errors of a hoist and winds, but for ErrArg.
func checkWinch(h api.Hoist, winds api.Span) api.Errno {
	if e := CheckHoist(h); e != api.OK {
		return e
	}
	if !check.Spans(winds) {
		return api.ErrSpan
	}
	return api.OK
}

// blows reports whether winds lie on the table of the hoist.
func (w *winch) blows() bool { return check.OnAxis(w.Limits.Y, w.winds) }

// carries reports whether the hoist carries a weight at all lengths of a span; nothing is always carried.
func (w *winch) carries(lengths api.Span, weight int) bool {
	s, _ := spans.Bound(w.Limits, lengths, w.winds)
	return weight == 0 || s.Low >= weight
}

func alone(n int) api.Span { return api.Span{Low: n, High: n} }

// Haul returns how a hoist stands behind steps.
func Haul(h api.Hoist, winds api.Span, l []api.Haul) (hang api.Hang, at int, e api.Errno) {
	if e := checkWinch(h, winds); e != api.OK {
		return api.Hang{}, 0, e
	}
	if len(l) > api.MaxHauls {
		return api.Hang{}, 0, api.ErrMany
	}
	w := &winch{Hoist: h, winds: winds}
	if !w.blows() {
		return api.Hang{}, 0, api.ErrArg
	}
	if i := slices.IndexFunc(l, func(s api.Haul) bool { return !w.does(s) }); i >= 0 {
		return api.Hang{}, i, api.ErrHaul
	}
	return w.Hang, 0, api.OK
}

// does plays a step, if it is possible.
func (w *winch) does(s api.Haul) bool {
	if w.Cut || !w.possible(s) {
		return false
	}
	w.Since++
	switch s.Kind {
	case api.Out:
		w.Length += s.N
	case api.In:
		w.Length -= s.N
	case api.Touch:
		w.Since, w.touched = 0, true
	case api.Hook:
		w.Weight = s.N
	case api.Unhook:
		w.Weight = 0
		w.Cycles++
	case api.Cut:
		w.Length, w.Weight, w.Cut = 0, 0, true
	}
	return true
}

// possible reports whether a step is one, and possible.
func (w *winch) possible(s api.Haul) bool {
	switch s.Kind {
	case api.Out:
		return whole.Within(1, w.Cable-w.Length, s.N) && w.carries(alone(w.Length+s.N), w.Weight)
	case api.In:
		return whole.Within(1, w.Length, s.N) && w.carries(alone(w.Length-s.N), w.Weight)
	case api.Touch:
		return s.N == 0 && w.Length > 0
	case api.Hook:
		discharged := w.touched && w.Since < w.Charge
		return whole.Within(1, api.MaxLoad, s.N) && w.Weight == 0 && w.Length > 0 && discharged && w.carries(alone(w.Length), s.N)
	case api.Unhook:
		return s.N == 0 && w.Weight > 0
	case api.Cut:
		return s.N == 0
	}
	return false
}

// loaded returns a winch that can be asked whether it carries a weight at a length.
func loaded(h api.Hoist, winds api.Span, length, weight int) (*winch, api.Errno) {
	if e := checkWinch(h, winds); e != api.OK {
		return nil, e
	}
	w := &winch{Hoist: h, winds: winds}
	if !w.blows() || !whole.Within(0, h.Cable, length) || !whole.Within(1, api.MaxLoad, weight) {
		return nil, api.ErrArg
	}
	return w, api.OK
}

// Carries reports whether a hoist carries a weight at a length.
func Carries(h api.Hoist, winds api.Span, length, weight int) (bool, api.Errno) {
	w, e := loaded(h, winds, length, weight)
	if e != api.OK {
		return false, e
	}
	return w.carries(alone(length), weight), api.OK
}

// Deepest returns the greatest length up to which a hoist carries a weight.
func Deepest(h api.Hoist, winds api.Span, weight int) (int, api.Errno) {
	w, e := loaded(h, winds, 0, weight)
	if e != api.OK {
		return 0, e
	}
	length, is := whole.Last(0, h.Cable, func(n int) bool { return w.carries(api.Span{High: n}, weight) })
	if !is {
		return 0, api.ErrNone
	}
	return length, api.OK
}
