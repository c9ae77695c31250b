package check

import (
	"testing"

	"swashplate/api"
)

func span(low, high int) api.Span { return api.Span{Low: low, High: high} }

func TestSpans(t *testing.T) {
	if !Spans() || !Spans(span(-1000000, 1000000), span(3, 3)) || Spans(span(0, 1), span(1, 0)) || Spans(span(0, 1000001)) {
		t.Error("Spans")
	}
	if !Inside(2, 5) || !Inside(2, 5, span(2, 5), span(3, 4)) || Inside(2, 5, span(1, 5)) || Inside(2, 5, span(2, 6)) || Inside(2, 5, span(4, 3)) || Inside(0, 2000000, span(0, 1000001)) {
		t.Error("Inside")
	}
	if knots := []int{1, 4, 9}; !OnAxis(knots) || !OnAxis(knots, span(1, 9), span(2, 3)) || OnAxis(knots, span(0, 9)) || OnAxis(knots, span(2, 3), span(1, 10)) {
		t.Error("OnAxis")
	}
}

func TestTicks(t *testing.T) {
	if !Ticks() || !Ticks(0, 2000) || Ticks(5, -1) || Ticks(2001) {
		t.Error("Ticks")
	}
	if !Period(0, 1) || !Period(1999, 2000) || Period(5, 5) || Period(6, 5) || Period(-1, 5) || Period(5, 2001) {
		t.Error("Period")
	}
}
