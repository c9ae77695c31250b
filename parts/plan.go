package parts

import (
	"slices"

	"swashplate/api"
	"swashplate/whole"
)

// Plan returns with which part each flight is flown: with as few changes as possible.
func Plan(spares, flights []int) (parts []int, changes int, e api.Errno) {
	right := whole.Within(1, api.MaxSpares, len(spares)) && whole.Within(0, api.MaxLife, spares...) &&
		len(flights) <= api.MaxFlights && whole.Within(1, api.MaxLife, flights...)
	if !right {
		return nil, 0, api.ErrArg
	}
	for changes := range len(flights) + 1 {
		if parts, is := assign(spares, flights, changes); is {
			return parts, changes, api.OK
		}
	}
	return nil, 0, api.ErrNone
}

// assign returns the first list of parts with at most so many changes.
func assign(spares, flights []int, changes int) ([]int, bool) {
	left := slices.Clone(spares)
	var list []int
	var extend func(changes int) bool
	extend = func(changes int) bool {
		i := len(list)
		if i == len(flights) {
			return true
		}
		for part := range left {
			rest := changes
			if i > 0 && list[i-1] != part {
				rest--
			}
			if rest < 0 || left[part] < flights[i] {
				continue
			}
			list = append(list, part)
			left[part] -= flights[i]
			if extend(rest) {
				return true
			}
			list = list[:i]
			left[part] += flights[i]
		}
		return false
	}
	is := extend(changes)
	return list, is
}
