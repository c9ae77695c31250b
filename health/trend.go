package health

import (
	"cmp"
	"slices"

	"swashplate/api"
	"swashplate/whole"
)

// fraction is an exact number; its denominator is above 0.
type fraction struct{ num, den int }

func (f fraction) compare(g fraction) int { return cmp.Compare(f.num*g.den, g.num*f.den) }

// lowest returns the fraction in lowest terms.
func (f fraction) lowest() (int, int) { return whole.Lowest(f.num, f.den) }

// median returns the fraction in the middle, the lower one of two.
func median(l []fraction) fraction {
	slices.SortFunc(l, fraction.compare)
	return l[(len(l)-1)/2]
}

func areValues(values []int) bool {
	return whole.Within(1, api.MaxTrend, len(values)) && areLevels(values)
}

func areLevels(values []int) bool { return whole.Within(-api.MaxLevel, api.MaxLevel, values...) }

// rises returns how many more values are less than a value behind them than greater.
func rises(before []int, value int) int {
	n := 0
	for _, b := range before {
		n += cmp.Compare(value, b)
	}
	return n
}

func trend(values []int) int {
	n := 0
	for i, v := range values {
		n += rises(values[:i], v)
	}
	return n
}

// Trend returns how many more pairs of values rise than fall.
func Trend(values []int) (int, api.Errno) {
	if !areValues(values) {
		return 0, api.ErrArg
	}
	return trend(values), api.OK
}

// chance returns the probability that values in any order have at least their trend.
func chance(values []int) fraction {
	least := trend(values)
	var f fraction
	var used [api.MaxTrend]bool
	var extend func(order []int, trend int)
	extend = func(order []int, trend int) {
		if len(order) == len(values) {
			f.den++
			if trend >= least {
				f.num++
			}
			return
		}
		for i, v := range values {
			if !used[i] {
				used[i] = true
				extend(append(order, v), trend+rises(order, v))
				used[i] = false
			}
		}
	}
	extend(make([]int, 0, len(values)), 0)
	return f
}

// Chance returns the probability of such a trend by chance.
func Chance(values []int) (num, den int, e api.Errno) {
	if !areValues(values) {
		return 0, 0, api.ErrArg
	}
	num, den = chance(values).lowest()
	return num, den, api.OK
}

// mostAlarms is how many values an alarm is looked for in.
const mostAlarms = 64

// Alarm returns the first value that is an alarm.
func Alarm(values []int, limit, num, den int) (int, api.Errno) {
	if len(values) > mostAlarms {
		return 0, api.ErrMany
	}
	if !areLevels(values) || !areLevels([]int{limit}) || !whole.Within(0, api.MaxLevel, num) || !whole.Within(1, api.MaxLevel, den) {
		return 0, api.ErrArg
	}
	for i, v := range values {
		if v < limit {
			continue
		}
		last := values[max(0, i+1-api.MaxTrend) : i+1]
		if chance(last).compare(fraction{num, den}) <= 0 {
			return i, api.OK
		}
	}
	return -1, api.OK
}

// checkTrend returns the errors of hours and values.
func checkTrend(hours, values []int, at int) api.Errno {
	right := areValues(values) && len(hours) == len(values) && whole.Within(0, api.MaxLevel, hours...) && whole.Ascending(hours...)
	if !right || !whole.Within(0, api.MaxLevel, at) {
		return api.ErrArg
	}
	if len(values) == 1 {
		return api.ErrNone
	}
	return api.OK
}

// slope returns the median slope of all pairs.
func slope(hours, values []int) fraction {
	var l []fraction
	for i := range values {
		for k := range i {
			l = append(l, fraction{values[i] - values[k], hours[i] - hours[k]})
		}
	}
	return median(l)
}

// Slope returns the median slope of values.
func Slope(hours, values []int) (num, den int, e api.Errno) {
	if e := checkTrend(hours, values, 0); e != api.OK {
		return 0, 0, e
	}
	num, den = slope(hours, values).lowest()
	return num, den, api.OK
}

// Forecast returns what values lead to at a time.
func Forecast(hours, values []int, at int) (num, den int, e api.Errno) {
	if e := checkTrend(hours, values, at); e != api.OK {
		return 0, 0, e
	}
	s := slope(hours, values)
	var l []fraction
	for i, v := range values {
		l = append(l, fraction{v*s.den + s.num*(at-hours[i]), s.den})
	}
	num, den = median(l).lowest()
	return num, den, api.OK
}
