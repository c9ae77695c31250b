package spans

import (
	"cmp"
	"iter"

	"swashplate/api"
	"swashplate/whole"
)

// CheckTable returns ErrTable unless a table is valid.
func CheckTable(t api.Table) api.Errno {
	if !axis(t.X) || !axis(t.Y) || len(t.Values) != len(t.X) {
		return api.ErrTable
	}
	for _, row := range t.Values {
		if len(row) != len(t.Y) || !whole.Within(-api.MaxValue, api.MaxValue, row...) {
			return api.ErrTable
		}
	}
	return api.OK
}

// axis reports whether knots can be those of an axis.
func axis(knots []int) bool {
	if !whole.Within(2, api.MaxKnots, len(knots)) || !whole.Within(-api.MaxValue, api.MaxValue, knots...) {
		return false
	}
	for i := 1; i < len(knots); i++ {
		if !whole.Within(1, api.MaxStep, knots[i]-knots[i-1]) {
			return false
		}
	}
	return true
}

// onAxis reports whether numbers are from the first to the last knot of an axis.
func onAxis(knots []int, numbers ...int) bool {
	return whole.Within(knots[0], knots[len(knots)-1], numbers...)
}

// value is an exact fraction; its denominator is above 0.
type value struct{ num, den int }

func (v value) floor() int { return whole.Floor(v.num, v.den) }

func (v value) ceil() int { return whole.Ceil(v.num, v.den) }

// compare compares whole parts first: products of the numerators themselves would overflow.
func (v value) compare(w value) int {
	a, b := v.floor(), w.floor()
	if a != b {
		return cmp.Compare(a, b)
	}
	return cmp.Compare((v.num-a*v.den)*w.den, (w.num-b*w.den)*v.den)
}

// corner is a point of a table with whole numbers, and its value.
type corner struct {
	value
	x, y int
}

// part returns the number of the knot with which the part of an axis begins that n lies in.
func part(knots []int, n int) int {
	i := 0
	for i < len(knots)-2 && knots[i+1] <= n {
		i++
	}
	return i
}

// onKnot returns the value of a table at a knot of X and at y.
func onKnot(t api.Table, i, y int) value {
	k := part(t.Y, y)
	low, high := t.Values[i][k], t.Values[i][k+1]
	return value{(t.Y[k+1]-y)*low + (y-t.Y[k])*high, t.Y[k+1] - t.Y[k]}
}

// at returns the value of a table, between those on the knots of X beside it.
func at(t api.Table, x, y int) value {
	i := part(t.X, x)
	low, high := onKnot(t, i, y), onKnot(t, i+1, y)
	return value{(t.X[i+1]-x)*low.num + (x-t.X[i])*high.num, (t.X[i+1] - t.X[i]) * low.den}
}

// ends returns the ends of a span, and the knots within it, in ascending order.
func ends(knots []int, s api.Span) []int {
	l := []int{s.Low}
	for _, n := range knots {
		if n > s.Low && n < s.High {
			l = append(l, n)
		}
	}
	if s.High > s.Low {
		l = append(l, s.High)
	}
	return l
}

// corners goes through the corners of all parts of a box between knots, in order.
func corners(t api.Table, x, y api.Span) iter.Seq[corner] {
	return func(yield func(corner) bool) {
		across := ends(t.Y, y)
		for _, i := range ends(t.X, x) {
			for _, k := range across {
				if !yield(corner{at(t, i, k), i, k}) {
					return
				}
			}
		}
	}
}

// checkBox returns the errors of a table and a box on it.
func checkBox(t api.Table, x, y api.Span) api.Errno {
	if e := CheckTable(t); e != api.OK {
		return e
	}
	if !valid(x, y) {
		return api.ErrSpan
	}
	if !onAxis(t.X, x.Low, x.High) || !onAxis(t.Y, y.Low, y.High) {
		return api.ErrArg
	}
	return api.OK
}

// At returns the least span that has the value of a table at a point.
func At(t api.Table, x, y int) (api.Span, api.Errno) {
	if e := CheckTable(t); e != api.OK {
		return api.Span{}, e
	}
	if !onAxis(t.X, x) || !onAxis(t.Y, y) {
		return api.Span{}, api.ErrArg
	}
	v := at(t, x, y)
	return span(v.floor(), v.ceil()), api.OK
}

// Bound returns the least span that has all values of a table on a box.
func Bound(t api.Table, x, y api.Span) (api.Span, api.Errno) {
	if e := checkBox(t, x, y); e != api.OK {
		return api.Span{}, e
	}
	s := span(api.MaxValue, -api.MaxValue)
	for c := range corners(t, x, y) {
		s = span(min(s.Low, c.floor()), max(s.High, c.ceil()))
	}
	return s, api.OK
}

// Worst returns the first point at which a table is greatest on a box. It is a corner: where a point between corners is as great, so is a corner before it.
func Worst(t api.Table, x, y api.Span) (atX, atY int, e api.Errno) {
	if e := checkBox(t, x, y); e != api.OK {
		return 0, 0, e
	}
	worst := corner{value{-api.MaxValue - 1, 1}, 0, 0}
	for c := range corners(t, x, y) {
		if c.compare(worst.value) > 0 {
			worst = c
		}
	}
	return worst.x, worst.y, api.OK
}

// Below reports whether a table is at most a limit on a box; otherwise it returns the first corner at which it is more.
func Below(t api.Table, x, y api.Span, limit int) (atX, atY int, is bool, e api.Errno) {
	if e := checkBox(t, x, y); e != api.OK {
		return 0, 0, false, e
	}
	for c := range corners(t, x, y) {
		if c.ceil() > limit {
			return c.x, c.y, false, api.OK
		}
	}
	return 0, 0, true, api.OK
}

// Greatest returns the greatest x at which a table is at most a limit for all of y.
func Greatest(t api.Table, y api.Span, limit int) (int, api.Errno) {
	if e := CheckTable(t); e != api.OK {
		return 0, e
	}
	if !valid(y) {
		return 0, api.ErrSpan
	}
	if !onAxis(t.Y, y.Low, y.High) {
		return 0, api.ErrArg
	}
	limit = min(max(limit, -api.MaxValue-1), api.MaxValue) // no value lies beyond: nothing overflows
	for i := len(t.X) - 2; i >= 0; i-- {
		if s := under(t, i, y, limit); s.Low <= s.High {
			return t.X[i] + s.High, api.OK
		}
	}
	return 0, api.ErrNone
}

// under returns how far behind the knot i of X, up to the next one, a table is at most a limit for all of y.
func under(t api.Table, i int, y api.Span, limit int) api.Span {
	size := t.X[i+1] - t.X[i]
	s := span(0, size)
	for _, k := range ends(t.Y, y) {
		from, to := onKnot(t, i, k), onKnot(t, i+1, k)
		s = common(s, notAbove(size, from.num-limit*from.den, to.num-limit*to.den))
	}
	return s
}

// notAbove returns the numbers from 0 to size at which the line from p at 0 to q at size is not above 0.
func notAbove(size, p, q int) api.Span {
	switch {
	case p < q:
		return span(0, min(size, whole.Floor(-size*p, q-p)))
	case p > q:
		return span(max(0, whole.Ceil(size*p, p-q)), size)
	case p <= 0:
		return span(0, size)
	}
	return span(1, 0)
}
