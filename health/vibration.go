// Package health listens to gearboxes: it measures vibrations, finds trends, and tells loose sensors from worn gears.
package health

import (
	"swashplate/api"
	"swashplate/whole"
)

// Check returns ErrVibration unless a vibration is valid.
func Check(v api.Vibration) api.Errno {
	right := len(v.Samples) <= api.MaxSamples && whole.Within(-api.MaxSample, api.MaxSample, v.Samples...) &&
		whole.Within(2, api.MaxTurns+1, len(v.Marks)) && whole.Within(0, len(v.Samples)-1, v.Marks...) && whole.Ascending(v.Marks...)
	if !right {
		return api.ErrVibration
	}
	return api.OK
}

// Average returns the average of a vibration over its turns.
func Average(v api.Vibration, n int) (sums []int, den int, e api.Errno) {
	if e := Check(v); e != api.OK {
		return nil, 0, e
	}
	if !whole.Within(1, api.MaxPoints, n) {
		return nil, 0, api.ErrArg
	}
	turns := len(v.Marks) - 1
	for k := range n {
		sum := 0
		for i := range turns {
			sum += point(v.Samples[v.Marks[i]:v.Marks[i+1]+1], k, n)
		}
		sums = append(sums, sum)
	}
	return sums, n * turns, api.OK
}

// point returns the value at the point k of n in a turn, multiplied by n. The turn has the samples at both its marks.
func point(turn []int, k, n int) int {
	q, r := k*(len(turn)-1)/n, k*(len(turn)-1)%n
	if r == 0 {
		return n * turn[q]
	}
	return (n-r)*turn[q] + r*turn[q+1]
}

// checkAverage returns ErrArg unless there are the sums of an average, and a number of teeth.
func checkAverage(sums []int, teeth int) api.Errno {
	n := len(sums)
	if !whole.Within(1, api.MaxPoints, n) || !whole.Within(-api.MaxPart, api.MaxPart, sums...) || !whole.Within(1, n, teeth) || n%teeth != 0 {
		return api.ErrArg
	}
	return api.OK
}

// Pattern returns the even pattern of teeth.
func Pattern(sums []int, teeth int) ([]int, api.Errno) {
	if e := checkAverage(sums, teeth); e != api.OK {
		return nil, e
	}
	pattern := make([]int, len(sums)/teeth)
	for i, sum := range sums {
		pattern[i%len(pattern)] += sum
	}
	return pattern, api.OK
}

// Residual returns what is left without the pattern of teeth.
func Residual(sums []int, teeth int) ([]int, api.Errno) {
	pattern, e := Pattern(sums, teeth)
	if e != api.OK {
		return nil, e
	}
	var rest []int
	for i, sum := range sums {
		rest = append(rest, sum*teeth-pattern[i%len(pattern)])
	}
	return rest, api.OK
}

// Measure returns the level of a residual.
func Measure(sums []int, den, teeth int) (api.Level, api.Errno) {
	rest, e := Residual(sums, teeth)
	if e != api.OK {
		return api.Level{}, e
	}
	if !whole.Within(1, api.MaxPart, den) {
		return api.Level{}, api.ErrArg
	}
	l := api.Level{Den: den * teeth}
	for _, n := range rest {
		l.Energy += n * n
		l.Peak = max(l.Peak, whole.Abs(n))
		l.Sum += whole.Abs(n)
	}
	return l, api.OK
}

// Crest returns how much the peak of a level is above its mean.
func Crest(l api.Level, n int) (num, den int, e api.Errno) {
	if !whole.Within(1, api.MaxPoints, n) || !whole.Within(0, 2*api.MaxPart*api.MaxPoints, l.Peak) || !whole.Within(l.Peak, n*l.Peak, l.Sum) {
		return 0, 0, api.ErrArg
	}
	if l.Sum == 0 {
		return 0, 1, api.OK
	}
	num, den = whole.Lowest(n*l.Peak, l.Sum)
	return num, den, api.OK
}
