package parts

import (
	"iter"
	"slices"

	"swashplate/api"
	"swashplate/whole"
)

// turns returns the turning points of a series.
func turns(series []int) []int {
	var l []int
	for _, n := range series {
		k := len(l)
		switch {
		case k > 0 && l[k-1] == n:
		case k > 1 && (l[k-1] > l[k-2]) == (n > l[k-1]):
			l[k-1] = n
		default:
			l = append(l, n)
		}
	}
	return l
}

// count goes through the cycles of a series: ranges, each with the number of its halves.
func count(series []int) iter.Seq[[2]int] {
	return func(yield func([2]int) bool) {
		var pile []int
		between := func(i int) int { return whole.Abs(pile[i+1] - pile[i]) }
		for _, n := range turns(series) {
			pile = append(pile, n)
			for k := len(pile); k >= 3 && between(k-2) >= between(k-3); k = len(pile) {
				cycle := [2]int{between(k - 3), 2}
				if k == 3 {
					cycle[1] = 1
					pile = pile[1:]
				} else {
					pile = slices.Delete(pile, k-3, k-1)
				}
				if !yield(cycle) {
					return
				}
			}
		}
		for i := range len(pile) - 1 {
			if !yield([2]int{between(i), 1}) {
				return
			}
		}
	}
}

// checkSeries returns the errors of a series.
func checkSeries(series []int) api.Errno {
	if len(series) > api.MaxSeries {
		return api.ErrMany
	}
	if !whole.Within(-api.MaxValue, api.MaxValue, series...) {
		return api.ErrArg
	}
	return api.OK
}

// Cycles counts the cycles of a series.
func Cycles(series []int) ([][2]int, api.Errno) {
	if e := checkSeries(series); e != api.OK {
		return nil, e
	}
	return slices.Collect(count(series)), api.OK
}

// areSteps reports whether there are ranges and damages by which damage is counted.
func areSteps(steps [][2]int) bool {
	for i, s := range steps {
		if !whole.Within(0, api.MaxValue, s[0], s[1]) || i > 0 && steps[i-1][0] >= s[0] {
			return false
		}
	}
	return len(steps) <= api.MaxSteps
}

// Damage returns the damage of a series.
func Damage(series []int, steps [][2]int) (int, api.Errno) {
	if e := checkSeries(series); e != api.OK {
		return 0, e
	}
	if !areSteps(steps) {
		return 0, api.ErrArg
	}
	sum := 0
	for cycle := range count(series) {
		damage := 0
		for _, s := range steps {
			if s[0] <= cycle[0] {
				damage = s[1]
			}
		}
		sum += cycle[1] * damage
	}
	return sum, api.OK
}
