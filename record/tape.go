package record

import (
	"slices"

	"swashplate/api"
	"swashplate/whole"
)

// highest is the greatest number of a word.
const highest = 1<<api.MaxBits - 1

// Check returns ErrLayout unless a layout is valid.
func Check(l api.Layout) api.Errno {
	right := whole.Within(2, api.MaxWords, l.Words) && whole.Within(0, highest, l.Sync[:]...) && len(l.Fields) <= api.MaxFields
	for i, n := range l.Sync {
		right = right && !slices.Contains(l.Sync[:i], n)
	}
	if !right {
		return api.ErrLayout
	}
	for i, f := range l.Fields {
		if !isField(l, f) || slices.ContainsFunc(l.Fields[:i], func(g api.Bits) bool { return collide(f, g) }) {
			return api.ErrLayout
		}
	}
	return api.OK
}

// isField reports whether a field is valid by itself.
func isField(l api.Layout, f api.Bits) bool {
	return whole.Within(1, l.Words-1, f.Word) && whole.Within(0, api.MaxBits-1, f.Bit) && whole.Within(1, api.MaxBits-f.Bit, f.Size) &&
		whole.Within(-1000, 1000, f.Num) && whole.Within(1, 1000, f.Den) && whole.Within(-api.MaxValue, api.MaxValue, f.Add) &&
		(f.Every == 1 || f.Every == 2 || f.Every == 4) && whole.Within(0, f.Every-1, f.Phase)
}

// isIn reports whether a field is recorded in a subframe.
func isIn(f api.Bits, subframe int) bool { return subframe%f.Every == f.Phase }

// collide reports whether two fields have a bit in common in the same subframe.
func collide(f, g api.Bits) bool {
	if f.Word != g.Word || f.Bit+f.Size <= g.Bit || g.Bit+g.Size <= f.Bit {
		return false
	}
	for subframe := range 4 {
		if isIn(f, subframe) && isIn(g, subframe) {
			return true
		}
	}
	return false
}

// tape is a layout with frames.
type tape struct {
	api.Layout
	frames [][]int
}

// play returns a tape, or the errors of a layout and its frames.
func play(l api.Layout, frames [][]int) (tape, api.Errno) {
	if e := Check(l); e != api.OK {
		return tape{}, e
	}
	if len(frames) > api.MaxFrames {
		return tape{}, api.ErrMany
	}
	return tape{l, frames}, api.OK
}

// playFields returns a tape that has some fields, or the first error.
func playFields(l api.Layout, frames [][]int, fields ...int) (tape, api.Errno) {
	t, e := play(l, frames)
	if e == api.OK && !whole.Within(0, len(l.Fields)-1, fields...) {
		e = api.ErrArg
	}
	return t, e
}

// subframe returns which subframe a frame is, or -1 if it is not good.
func (t tape) subframe(frame []int) int {
	if len(frame) != t.Words || !whole.Within(0, highest, frame...) {
		return -1
	}
	return slices.Index(t.Sync[:], frame[0])
}

// good goes through the good frames: their numbers, and their subframes.
func (t tape) good(yield func(n, subframe int) bool) {
	for n, frame := range t.frames {
		if s := t.subframe(frame); s >= 0 && !yield(n, s) {
			return
		}
	}
}

// value returns the value of a field in a good frame, multiplied by Den.
func value(f api.Bits, frame []int) int {
	raw := frame[f.Word] >> f.Bit & (1<<f.Size - 1)
	if f.Signed && raw>>(f.Size-1) == 1 {
		raw -= 1 << f.Size
	}
	return f.Add*f.Den + raw*f.Num
}

// samples returns the samples of a field: the number of the frame, and the value multiplied by Den.
func (t tape) samples(field int) [][2]int {
	f := t.Fields[field]
	var l [][2]int
	for n, subframe := range t.good {
		if isIn(f, subframe) {
			l = append(l, [2]int{n, value(f, t.frames[n])})
		}
	}
	return l
}

// values returns the values of some samples.
func values(samples [][2]int) []int {
	var l []int
	for _, s := range samples {
		l = append(l, s[1])
	}
	return l
}
