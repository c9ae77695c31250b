package sling

import (
	"swashplate/api"
	"swashplate/check"
	"swashplate/spans"
	"swashplate/whole"
)

// load is a load on a sling: its displacement and its speed, to be divided by den, which grows in each tick, so nothing is rounded.
type load struct {
	api.Sling
	a, v, den int
}

func hang(s api.Sling, start [2]int) load { return load{s, start[0], start[1], 1} }

// swing plays a tick.
func (l *load) swing(gust int) {
	l.den *= l.Den
	l.v = (l.Den-l.Damp)*l.v - l.Num*l.a + gust*l.den
	l.a = l.Den*l.a + l.v
}

// displacement is the displacement in lowest terms.
func (l *load) displacement() [2]int { return fraction(l.a, l.den) }

func fraction(num, den int) [2]int {
	num, den = whole.Lowest(num, den)
	return [2]int{num, den}
}

// inside reports whether a fraction is in all limits.
func inside(num, den int, limits ...api.Span) bool {
	for _, s := range limits {
		if !whole.Within(s.Low*den, s.High*den, num) {
			return false
		}
	}
	return true
}

// sets are a sling, and the spans of all that decides where the load is behind some ticks: displacement and speed at the start, and the gust of each tick.
type sets struct {
	api.Sling
	spans []api.Span
}

// allow returns the sets of starts and gusts, or the first error; limits are what a call has besides.
func allow(s api.Sling, b api.Box, gusts api.Span, n int, limits ...api.Span) (sets, api.Errno) {
	if e := Check(s); e != api.OK {
		return sets{}, e
	}
	if spans.Check(b) != api.OK || !check.Spans(gusts) || !check.Spans(limits...) {
		return sets{}, api.ErrSpan
	}
	right := len(b) == 2 && whole.Within(-api.MaxGust, api.MaxGust, gusts.Low, gusts.High) && whole.Within(0, api.MaxSwing, n)
	for _, s := range b {
		right = right && whole.Within(-api.MaxStart, api.MaxStart, s.Low, s.High)
	}
	if !right {
		return sets{}, api.ErrArg
	}
	x := sets{s, []api.Span{b[0], b[1]}}
	for range n {
		x.spans = append(x.spans, gusts)
	}
	return x, api.OK
}

// ticks is after how many ticks the load is looked at.
func (x sets) ticks() int { return len(x.spans) - 2 }

// until returns the same sets for fewer ticks.
func (x sets) until(n int) sets { return sets{x.Sling, x.spans[:n+2]} }

// effects returns how far the load is displaced by one more of each number, all to be divided by den: a swing is linear.
func (x sets) effects() (effects []int, den int) {
	for i := range x.spans {
		row := make([]int, len(x.spans))
		row[i] = 1
		l := hang(x.Sling, [2]int{row[0], row[1]})
		for _, gust := range row[2:] {
			l.swing(gust)
		}
		effects, den = append(effects, l.a), l.den
	}
	return effects, den
}

// witness returns the number of each span with which the load is displaced most, or least; the lower one if both ends lead to the same.
func (x sets) witness(high bool) []int {
	effects, _ := x.effects()
	var row []int
	for i, s := range x.spans {
		if effects[i] > 0 && high || effects[i] < 0 && !high {
			row = append(row, s.High)
		} else {
			row = append(row, s.Low)
		}
	}
	return row
}

// end returns the greatest displacement, or the least one, as a fraction.
func (x sets) end(high bool) (num, den int) {
	effects, den := x.effects()
	for i, n := range x.witness(high) {
		num += effects[i] * n
	}
	return num, den
}

// keeps reports whether the load stays in a limit behind each tick; otherwise it returns the first one behind which it may not.
func (x sets) keeps(limit api.Span) (int, bool) {
	for tick := range x.ticks() + 1 {
		now := x.until(tick)
		low, den := now.end(false)
		high, _ := now.end(true)
		if !inside(low, den, limit) || !inside(high, den, limit) {
			return tick, false
		}
	}
	return 0, true
}
