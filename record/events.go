package record

import (
	"cmp"
	"slices"

	"swashplate/api"
	"swashplate/stretch"
	"swashplate/whole"
)

// isEvent reports whether an event is valid for a layout.
func isEvent(l api.Layout, x api.Event) bool {
	right := whole.Within(1, api.MaxConds, len(x.Conditions)) && whole.Within(1, api.MaxHold, x.Hold)
	for _, c := range x.Conditions {
		right = right && whole.Within(0, len(l.Fields)-1, c.Field) && whole.Within(-api.MaxValue, api.MaxValue, c.Limit)
	}
	return right
}

// watch returns a tape, or the errors of a layout, its frames and events.
func watch(l api.Layout, frames [][]int, x ...api.Event) (tape, api.Errno) {
	t, e := play(l, frames)
	if e != api.OK {
		return t, e
	}
	if len(x) > api.MaxEvents {
		return t, api.ErrMany
	}
	for _, event := range x {
		if !isEvent(l, event) {
			return t, api.ErrEvent
		}
	}
	return t, api.OK
}

// holds reports in which frames a condition holds: each sample counts until there should be the next one.
func (t tape) holds(c api.Condition) []bool {
	f := t.Fields[c.Field]
	held := make([]bool, len(t.frames))
	for _, s := range t.samples(c.Field) {
		is := s[1] <= c.Limit*f.Den
		if c.Above {
			is = s[1] >= c.Limit*f.Den
		}
		for n := s[0]; n < min(s[0]+f.Every, len(held)); n++ {
			held[n] = is
		}
	}
	return held
}

// occurs returns the stretches of frames in which an event occurs.
func (t tape) occurs(x api.Event) []api.Span {
	var conditions [][]bool
	for _, c := range x.Conditions {
		conditions = append(conditions, t.holds(c))
	}
	return stretch.Where(0, len(t.frames), x.Hold, func(n int) bool {
		return !slices.ContainsFunc(conditions, func(held []bool) bool { return !held[n] })
	})
}

// Events returns the stretches in which an event occurs.
func Events(l api.Layout, frames [][]int, x api.Event) ([]api.Span, api.Errno) {
	t, e := watch(l, frames, x)
	if e != api.OK {
		return nil, e
	}
	return t.occurs(x), api.OK
}

// All returns what is found of several events.
func All(l api.Layout, frames [][]int, x []api.Event) ([]api.Found, api.Errno) {
	t, e := watch(l, frames, x...)
	if e != api.OK {
		return nil, e
	}
	var all []api.Found
	for i, event := range x {
		for _, s := range t.occurs(event) {
			all = append(all, api.Found{Event: i, Frames: s})
		}
	}
	slices.SortStableFunc(all, func(a, b api.Found) int { return cmp.Compare(a.Frames.Low, b.Frames.Low) })
	return all, api.OK
}

// Flights returns the flights as works.
func Flights(l api.Layout, frames [][]int, x api.Event, machine, hour int) ([]api.Work, api.Errno) {
	t, e := watch(l, frames, x)
	if e != api.OK {
		return nil, e
	}
	if !whole.Within(0, api.MaxMachines-1, machine) || !whole.Within(1, api.MaxFrames, hour) {
		return nil, api.ErrArg
	}
	var works []api.Work
	for _, s := range t.occurs(x) {
		hours := whole.Ceil(s.High-s.Low+1, hour)
		if hours > api.MaxFlight {
			return nil, api.ErrMany
		}
		works = append(works, api.Work{Kind: api.Flown, A: machine, B: hours, C: 1})
	}
	return works, api.OK
}
