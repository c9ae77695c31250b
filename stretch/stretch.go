// Package stretch finds stretches of numbers that follow one another.
package stretch

import "swashplate/api"

// Where returns the stretches of the numbers from a number on, before another one, of which is is true: in ascending order, each as long as possible, but only those of at least so many numbers.
func Where(from, to, least int, is func(n int) bool) []api.Span {
	var l []api.Span
	begin := from
	for n := from; n <= to; n++ {
		if n < to && is(n) {
			continue
		}
		if n > begin && n-begin >= least {
			l = append(l, api.Span{Low: begin, High: n - 1})
		}
		begin = n + 1
	}
	return l
}
