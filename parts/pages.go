package parts

import (
	"swashplate/api"
	"swashplate/check"
	"swashplate/stretch"
	"swashplate/whole"
)

// Gaps returns the hours that are on no page.
func Gaps(hours int, pages []api.Span) ([]api.Span, api.Errno) {
	return on(hours, pages, func(n int) bool { return n == 0 })
}

// Doubles returns the hours that are on several pages.
func Doubles(hours int, pages []api.Span) ([]api.Span, api.Errno) {
	return on(hours, pages, func(n int) bool { return n > 1 })
}

// on returns the hours that are on a number of pages that is meant.
func on(hours int, pages []api.Span, meant func(n int) bool) ([]api.Span, api.Errno) {
	if !whole.Within(0, api.MaxLife, hours) {
		return nil, api.ErrArg
	}
	if len(pages) > api.MaxBoxes {
		return nil, api.ErrMany
	}
	if !check.Inside(0, hours-1, pages...) {
		return nil, api.ErrSpan
	}
	return stretch.Where(0, hours, 1, func(hour int) bool {
		n := 0
		for _, p := range pages {
			if whole.Within(p.Low, p.High, hour) {
				n++
			}
		}
		return meant(n)
	}), api.OK
}
