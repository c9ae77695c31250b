// Package spans computes with sets of conditions: spans of numbers, boxes of spans, and tables between whose knots values are interpolated.
package spans

import (
	"swashplate/api"
	"swashplate/whole"
)

func span(low, high int) api.Span { return api.Span{Low: low, High: high} }

func valid(l ...api.Span) bool {
	for _, s := range l {
		if s.Low > s.High || !whole.Within(-api.MaxValue, api.MaxValue, s.Low, s.High) {
			return false
		}
	}
	return true
}

// common returns the numbers that are in both spans: an empty span, if there are none.
func common(a, b api.Span) api.Span { return span(max(a.Low, b.Low), min(a.High, b.High)) }

// Meet returns the numbers that are in both spans.
func Meet(a, b api.Span) (api.Span, api.Errno) {
	if !valid(a, b) {
		return api.Span{}, api.ErrSpan
	}
	both := common(a, b)
	if both.Low > both.High {
		return api.Span{}, api.ErrNone
	}
	return both, api.OK
}

// Hull returns the least span that has all numbers of both.
func Hull(a, b api.Span) (api.Span, api.Errno) {
	if !valid(a, b) {
		return api.Span{}, api.ErrSpan
	}
	return span(min(a.Low, b.Low), max(a.High, b.High)), api.OK
}

// Add returns the least span that has all sums.
func Add(a, b api.Span) (api.Span, api.Errno) {
	if !valid(a, b) {
		return api.Span{}, api.ErrSpan
	}
	return bounded(span(a.Low+b.Low, a.High+b.High))
}

// Times returns the least span that has all products.
func Times(a, b api.Span) (api.Span, api.Errno) {
	if !valid(a, b) {
		return api.Span{}, api.ErrSpan
	}
	p, q, r, s := a.Low*b.Low, a.Low*b.High, a.High*b.Low, a.High*b.High
	return bounded(span(min(p, q, r, s), max(p, q, r, s)))
}

// Part returns the least span that has all products with a fraction.
func Part(a api.Span, num, den int) (api.Span, api.Errno) {
	if !valid(a) {
		return api.Span{}, api.ErrSpan
	}
	if !whole.Within(0, 1000, num) || !whole.Within(1, 1000, den) {
		return api.Span{}, api.ErrArg
	}
	return bounded(span(whole.Floor(a.Low*num, den), whole.Ceil(a.High*num, den)))
}

// bounded returns a result, or ErrMany if it is beyond what a span may have.
func bounded(s api.Span) (api.Span, api.Errno) {
	if !valid(s) {
		return api.Span{}, api.ErrMany
	}
	return s, api.OK
}
