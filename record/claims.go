package record

import (
	"slices"

	"swashplate/api"
	"swashplate/check"
	"swashplate/whole"
)

// checkCase returns the errors of a case, a claim and a tick.
func checkCase(c api.Case, claim, tick int) api.Errno {
	right := len(c.Claims) <= api.MaxClaims && len(c.Proofs) <= api.MaxProofs
	for i, x := range c.Claims {
		right = right && whole.Ascending(x.Needs...) && whole.Within(0, i-1, x.Needs...) &&
			whole.Ascending(x.Proofs...) && whole.Within(0, len(c.Proofs)-1, x.Proofs...)
	}
	if !right || !check.Inside(0, api.MaxTime, c.Proofs...) {
		return api.ErrCase
	}
	if !whole.Within(0, len(c.Claims)-1, claim) || !check.Ticks(tick) {
		return api.ErrArg
	}
	return api.OK
}

// counting returns which proofs count in a tick.
func counting(c api.Case, tick int) []bool {
	var counts []bool
	for _, p := range c.Proofs {
		counts = append(counts, whole.Within(p.Low, p.High, tick))
	}
	return counts
}

// holds reports whether a claim holds with the proofs that count. Claims need only those before them.
func holds(c api.Case, claim int, counts []bool) bool {
	var held []bool
	for _, x := range c.Claims[:claim+1] {
		// With Any one that is there settles it, without Any one that is not.
		settles := func(is []bool) func(n int) bool { return func(n int) bool { return is[n] == x.Any } }
		settled := slices.ContainsFunc(x.Needs, settles(held)) || slices.ContainsFunc(x.Proofs, settles(counts))
		held = append(held, settled == x.Any)
	}
	return held[claim]
}

// Holds reports whether a claim holds.
func Holds(c api.Case, claim, tick int) (bool, api.Errno) {
	if e := checkCase(c, claim, tick); e != api.OK {
		return false, e
	}
	return holds(c, claim, counting(c, tick)), api.OK
}

// Until returns up to when a claim holds.
func Until(c api.Case, claim, tick int) (int, api.Errno) {
	if e := checkCase(c, claim, tick); e != api.OK {
		return 0, e
	}
	last := tick
	for last <= api.MaxTime && holds(c, claim, counting(c, last)) {
		last++
	}
	if last == tick {
		return 0, api.ErrNone
	}
	return last - 1, api.OK
}

// Weak returns the proofs without which a claim would not hold.
func Weak(c api.Case, claim, tick int) ([]int, api.Errno) {
	if e := checkCase(c, claim, tick); e != api.OK {
		return nil, e
	}
	counts := counting(c, tick)
	if !holds(c, claim, counts) {
		return nil, api.ErrNone
	}
	var weak []int
	for p, is := range counts {
		counts[p] = false
		if !holds(c, claim, counts) {
			weak = append(weak, p)
		}
		counts[p] = is
	}
	return weak, api.OK
}

// Renew returns the proofs that have to count besides: fewer ones are tried first, and of as many those with lower numbers.
func Renew(c api.Case, claim, tick int) ([]int, api.Errno) {
	if e := checkCase(c, claim, tick); e != api.OK {
		return nil, e
	}
	counts := counting(c, tick)
	var list []int
	var extend func(from, more int) bool
	extend = func(from, more int) bool {
		if more == 0 {
			return holds(c, claim, counts)
		}
		for p := from; p < len(counts); p++ {
			if counts[p] {
				continue
			}
			counts[p] = true
			list = append(list, p)
			if extend(p+1, more-1) {
				return true
			}
			counts[p] = false
			list = list[:len(list)-1]
		}
		return false
	}
	for more := range len(counts) + 1 {
		if extend(0, more) {
			return list, api.OK
		}
	}
	return nil, api.ErrNone
}
