package spans

import (
	"iter"
	"slices"

	"swashplate/api"
)

// Check returns ErrSpan unless a box is valid.
func Check(b api.Box) api.Errno {
	if len(b) < 1 || len(b) > api.MaxDims || !valid(b...) {
		return api.ErrSpan
	}
	return api.OK
}

// checkAll returns ErrSpan unless all boxes are valid, and ErrArg unless all have the same number of dimensions.
func checkAll(l ...api.Box) api.Errno {
	for _, b := range l {
		if e := Check(b); e != api.OK {
			return e
		}
	}
	for _, b := range l {
		if len(b) != len(l[0]) {
			return api.ErrArg
		}
	}
	return api.OK
}

// Minus returns the points of a box that are not in another one.
func Minus(a, b api.Box) ([]api.Box, api.Errno) {
	if e := checkAll(a, b); e != api.OK {
		return nil, e
	}
	return slices.Collect(without(a, b)), api.OK
}

// without goes through the parts of a without b: two sides of b for each dimension.
func without(a, b api.Box) iter.Seq[api.Box] {
	return func(yield func(api.Box) bool) {
		rest := slices.Clone(a)
		for d, s := range a {
			for _, side := range [2]api.Span{span(s.Low, min(s.High, b[d].Low-1)), span(max(s.Low, b[d].High+1), s.High)} {
				if side.Low <= side.High && !yield(replaced(rest, d, side)) {
					return
				}
			}
			rest[d] = common(s, b[d])
			if rest[d].Low > rest[d].High {
				return
			}
		}
	}
}

// replaced returns a box with another span in a dimension.
func replaced(b api.Box, d int, s api.Span) api.Box {
	c := slices.Clone(b)
	c[d] = s
	return c
}

// apart reports whether two boxes have no point in common.
func apart(a, b api.Box) bool {
	for d := range a {
		if a[d].High < b[d].Low || b[d].High < a[d].Low {
			return true
		}
	}
	return false
}

// left returns what is left of a box without all of some boxes, as boxes that have no point in common.
func left(a api.Box, l []api.Box) []api.Box {
	parts := []api.Box{a}
	for _, b := range l {
		var next []api.Box
		for _, p := range parts {
			if apart(p, b) { // Minus would cut it up for nothing
				next = append(next, p)
				continue
			}
			next = slices.AppendSeq(next, without(p, b))
		}
		parts = next
	}
	return parts
}

// first returns the first point of a box.
func first(b api.Box) []int {
	var point []int
	for _, s := range b {
		point = append(point, s.Low)
	}
	return point
}

// Covers reports whether boxes cover a box; otherwise it returns the first point that they do not.
func Covers(a api.Box, l []api.Box) (point []int, is bool, e api.Errno) {
	if len(l) > api.MaxBoxes {
		return nil, false, api.ErrMany
	}
	if e := checkAll(append([]api.Box{a}, l...)...); e != api.OK {
		return nil, false, e
	}
	for _, p := range left(a, l) {
		if q := first(p); point == nil || slices.Compare(q, point) < 0 {
			point = q
		}
	}
	return point, point == nil, api.OK
}

// Count returns how many points are in some boxes, at most MaxCount.
func Count(l []api.Box) (int, api.Errno) {
	if len(l) > api.MaxBoxes {
		return 0, api.ErrMany
	}
	if e := checkAll(l...); e != api.OK {
		return 0, e
	}
	n := 0
	for i, b := range l {
		for _, p := range left(b, l[:i]) {
			n += points(p)
		}
	}
	return min(n, api.MaxCount), api.OK
}

// points returns how many points a box has: of all boxes without common points together, too, fewer than 2^63.
func points(b api.Box) int {
	n := 1
	for _, s := range b {
		n *= s.High - s.Low + 1
	}
	return n
}
