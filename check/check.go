// Package check has the checks of arguments that several layers share.
package check

import (
	"swashplate/api"
	"swashplate/spans"
	"swashplate/whole"
)

// Spans reports whether spans are valid.
func Spans(l ...api.Span) bool {
	for _, s := range l {
		if spans.Check(api.Box{s}) != api.OK {
			return false
		}
	}
	return true
}

// Inside reports whether spans are valid, with numbers from low to high.
func Inside(low, high int, l ...api.Span) bool {
	for _, s := range l {
		if !whole.Within(low, high, s.Low, s.High) {
			return false
		}
	}
	return Spans(l...)
}

// OnAxis reports whether spans lie between the first and the last knot of an axis.
func OnAxis(knots []int, l ...api.Span) bool {
	for _, s := range l {
		if !whole.Within(knots[0], knots[len(knots)-1], s.Low, s.High) {
			return false
		}
	}
	return true
}

// Ticks reports whether numbers are ticks.
func Ticks(l ...int) bool { return whole.Within(0, api.MaxTime, l...) }

// Period reports whether there are ticks from one on, before another one.
func Period(from, to int) bool { return Ticks(from, to) && from < to }
