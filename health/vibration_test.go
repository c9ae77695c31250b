package health

import (
	"math"
	"math/big"
	"math/rand"
	"slices"
	"testing"

	"swashplate/api"
	"swashplate/samples"
)

// example is the vibration V of the document.
func example() api.Vibration { return samples.Vibration() }

func TestP8_1Check(t *testing.T) {
	long := api.Vibration{Samples: slices.Repeat([]int{100, -100}, 200), Marks: []int{0, 1, 2, 3, 4, 5, 6, 7, 399}}
	for i, v := range []api.Vibration{example(), long, {Samples: []int{1, 2}, Marks: []int{0, 1}}} {
		if e := Check(v); e != api.OK {
			t.Errorf("%d: %d", i, e)
		}
	}
	for i, v := range []api.Vibration{
		{}, {Samples: []int{1, 2}, Marks: []int{0}}, {Samples: []int{1, 2}, Marks: []int{0, 2}}, {Samples: []int{1, 2}, Marks: []int{-1, 1}},
		{Samples: []int{1, 2}, Marks: []int{1, 0}}, {Samples: []int{1, 2}, Marks: []int{1, 1}}, {Samples: []int{1, 101}, Marks: []int{0, 1}}, {Samples: []int{-101, 1}, Marks: []int{0, 1}},
		{Samples: make([]int, 401), Marks: []int{0, 1}}, {Samples: make([]int, 400), Marks: []int{0, 1, 2, 3, 4, 5, 6, 7, 8, 9}}, {Samples: []int{1, 2}, Marks: []int{math.MinInt, math.MaxInt}},
	} {
		if e := Check(v); e != api.ErrVibration {
			t.Errorf("%d: %d", i, e)
		}
		if l, den, e := Average(v, 0); l != nil || den != 0 || e != api.ErrVibration {
			t.Errorf("%d: Average = %v, %d, %d", i, l, den, e)
		}
	}
}

func TestP8_1Average(t *testing.T) {
	if l, den, e := Average(example(), 6); !slices.Equal(l, []int{0, 36, 72, 36, 0, -36}) || den != 12 || e != api.OK {
		t.Errorf("Average = %v, %d, %d", l, den, e)
	}
	if l, den, e := Average(example(), 4); !slices.Equal(l, []int{0, 36, 24, -12}) || den != 8 || e != api.OK {
		t.Errorf("Average of 4 points = %v, %d, %d", l, den, e)
	}
	if l, den, e := Average(api.Vibration{Samples: []int{9, 5, 8}, Marks: []int{1, 2}}, 3); !slices.Equal(l, []int{15, 18, 21}) || den != 3 || e != api.OK {
		t.Errorf("Average of a turn between two samples = %v, %d, %d", l, den, e)
	}
	for _, n := range []int{0, 25, -1, math.MaxInt} {
		if l, den, e := Average(example(), n); l != nil || den != 0 || e != api.ErrArg {
			t.Errorf("Average of %d points = %v, %d, %d", n, l, den, e)
		}
	}
	if l, _, e := Average(example(), 24); len(l) != 24 || e != api.OK {
		t.Errorf("Average of 24 points = %v, %d", l, e)
	}
}

func TestP8_1PatternAndResidual(t *testing.T) {
	sums := []int{0, 36, 72, 36, 0, -36}
	for _, c := range []struct {
		teeth         int
		pattern, rest []int
	}{
		{2, []int{36, 36, 36}, []int{-36, 36, 108, 36, -36, -108}},
		{1, sums, make([]int, 6)},
		{6, []int{108}, []int{-108, 108, 324, 108, -108, -324}},
		{3, []int{72, 36}, []int{-72, 72, 144, 72, -72, -144}},
	} {
		if l, e := Pattern(sums, c.teeth); !slices.Equal(l, c.pattern) || e != api.OK {
			t.Errorf("Pattern of %d teeth = %v, %d", c.teeth, l, e)
		}
		if l, e := Residual(sums, c.teeth); !slices.Equal(l, c.rest) || e != api.OK {
			t.Errorf("Residual of %d teeth = %v, %d", c.teeth, l, e)
		}
	}
	for _, c := range []struct {
		sums  []int
		teeth int
	}{{sums, 0}, {sums, 4}, {sums, 12}, {sums, 7}, {sums, -1}, {nil, 1}, {make([]int, 25), 1}, {[]int{1000001}, 1}, {[]int{0, -1000001}, 1}, {sums, math.MinInt}} {
		if l, e := Pattern(c.sums, c.teeth); l != nil || e != api.ErrArg {
			t.Errorf("Pattern of %v = %v, %d", c, l, e)
		}
		if l, e := Residual(c.sums, c.teeth); l != nil || e != api.ErrArg {
			t.Errorf("Residual of %v = %v, %d", c, l, e)
		}
		if l, e := Measure(c.sums, 1, c.teeth); l != (api.Level{}) || e != api.ErrArg {
			t.Errorf("Measure of %v = %v, %d", c, l, e)
		}
	}
}

func TestP8_2MeasureAndCrest(t *testing.T) {
	level := api.Level{Energy: 28512, Peak: 108, Sum: 360, Den: 24}
	if l, e := Measure([]int{0, 36, 72, 36, 0, -36}, 12, 2); l != level || e != api.OK {
		t.Errorf("Measure = %v, %d", l, e)
	}
	most := slices.Repeat([]int{1000000, -1000000}, 12)
	if l, e := Measure(most, 1000000, 24); l != (api.Level{Energy: 24 * 24000000 * 24000000, Peak: 24000000, Sum: 24 * 24000000, Den: 24000000}) || e != api.OK {
		t.Errorf("Measure of the greatest = %v, %d", l, e)
	}
	for _, den := range []int{0, -1, 1000001} {
		if l, e := Measure([]int{1}, den, 1); l != (api.Level{}) || e != api.ErrArg {
			t.Errorf("Measure with %d = %v, %d", den, l, e)
		}
	}
	for _, c := range []struct {
		l           api.Level
		n, num, den int
		e           api.Errno
	}{
		{level, 6, 9, 5, api.OK}, {api.Level{}, 6, 0, 1, api.OK}, {api.Level{Peak: 5, Sum: 5}, 1, 1, 1, api.OK}, {api.Level{Peak: 5, Sum: 10}, 4, 2, 1, api.OK},
		{api.Level{Peak: 48000000, Sum: 48000000, Energy: -1, Den: -1}, 24, 24, 1, api.OK},
		{api.Level{Peak: 48000001, Sum: 48000001}, 24, 0, 0, api.ErrArg}, {api.Level{Peak: -1}, 1, 0, 0, api.ErrArg}, {api.Level{Peak: 5, Sum: 4}, 2, 0, 0, api.ErrArg},
		{api.Level{Peak: 5, Sum: 11}, 2, 0, 0, api.ErrArg}, {api.Level{}, 0, 0, 0, api.ErrArg}, {api.Level{}, 25, 0, 0, api.ErrArg}, {api.Level{Sum: 1}, 2, 0, 0, api.ErrArg},
		{api.Level{Peak: math.MaxInt, Sum: math.MinInt}, math.MaxInt, 0, 0, api.ErrArg},
	} {
		if num, den, e := Crest(c.l, c.n); num != c.num || den != c.den || e != c.e {
			t.Errorf("Crest of %v with %d = %d, %d, %d", c.l, c.n, num, den, e)
		}
	}
}

func anyVibration(r *rand.Rand) api.Vibration {
	var v api.Vibration
	for range 2 + r.Intn(60) {
		v.Samples = append(v.Samples, r.Intn(201)-100)
	}
	for i := range v.Samples {
		if len(v.Marks) < 9 && (r.Intn(5) == 0 || i >= len(v.Samples)-2 && len(v.Marks) < 2) {
			v.Marks = append(v.Marks, i)
		}
	}
	return v
}

func TestP8_6AveragesAreLinear(t *testing.T) {
	r := rand.New(rand.NewSource(1))
	for range 200 {
		v, n := anyVibration(r), 1+r.Intn(24)
		sums, den, e := Average(v, n)
		if e != api.OK || den != n*(len(v.Marks)-1) {
			t.Fatalf("Average = %d, %d", den, e)
		}
		// By the text: the line between the two samples beside each point.
		for k := range n {
			want := new(big.Rat)
			for i := 1; i < len(v.Marks); i++ {
				a, b := v.Marks[i-1], v.Marks[i]
				at := new(big.Rat).Add(big.NewRat(int64(a), 1), big.NewRat(int64(k*(b-a)), int64(n)))
				low := int(new(big.Int).Div(at.Num(), at.Denom()).Int64())
				high := min(low+1, len(v.Samples)-1)
				part := new(big.Rat).Sub(at, big.NewRat(int64(low), 1))
				part.Mul(part, big.NewRat(int64(v.Samples[high]-v.Samples[low]), 1))
				want.Add(want, part.Add(part, big.NewRat(int64(v.Samples[low]), 1)))
			}
			if want.Mul(want, big.NewRat(int64(n), 1)).Cmp(big.NewRat(int64(sums[k]), 1)) != 0 {
				t.Fatalf("Average of %v has %d at %d of %d, want %v", v, sums[k], k, n, want)
			}
		}
		w := api.Vibration{Marks: v.Marks}
		both := w
		negative := w
		same := w
		for _, s := range v.Samples {
			x := r.Intn(101) - 50
			w.Samples = append(w.Samples, x)
			both.Samples = append(both.Samples, (s+100)/4+x)
			negative.Samples = append(negative.Samples, -s)
			same.Samples = append(same.Samples, 7)
		}
		quarter := api.Vibration{Marks: v.Marks}
		for i := range v.Samples {
			quarter.Samples = append(quarter.Samples, both.Samples[i]-w.Samples[i])
		}
		a, _, _ := Average(quarter, n)
		b, _, _ := Average(w, n)
		c, _, _ := Average(both, n)
		d, _, _ := Average(negative, n)
		f, _, _ := Average(same, n)
		for k := range n {
			if a[k]+b[k] != c[k] || d[k] != -sums[k] || f[k] != 7*den {
				t.Fatalf("at %d: %d and %d are not %d; %d is not opposite to %d; %d is not 7", k, a[k], b[k], c[k], d[k], sums[k], f[k])
			}
		}
	}
}

func TestP8_7And8TheTeethAreTakenOut(t *testing.T) {
	r := rand.New(rand.NewSource(2))
	for range 300 {
		n := 1 + r.Intn(24)
		teeth := 1 + r.Intn(n)
		if n%teeth != 0 {
			continue
		}
		size := []int{1, 50, api.MaxPart}[r.Intn(3)]
		var sums []int
		for i := range n {
			if r.Intn(3) == 0 && i >= n/teeth {
				sums = append(sums, sums[i-n/teeth])
			} else {
				sums = append(sums, r.Intn(2*size+1)-size)
			}
		}
		pattern, _ := Pattern(sums, teeth)
		rest, _ := Residual(sums, teeth)
		level, e := Measure(sums, 1, teeth)
		if e != api.OK {
			t.Fatal(e)
		}
		squares, energy, alike := 0, 0, true
		for i, s := range sums {
			squares += s * teeth * s * teeth
			energy += rest[i] * rest[i]
			alike = alike && s == sums[i%(n/teeth)]
		}
		for k, p := range pattern {
			energy += teeth * p * p
			sum := 0
			for i := k; i < n; i += n / teeth {
				sum += rest[i]
			}
			if sum != 0 {
				t.Fatalf("the residuals at %d of %v are together %d", k, rest, sum)
			}
		}
		if squares != energy || (level.Energy == 0) != alike {
			t.Fatalf("squares %d, energy %d, %v", squares, energy, level)
		}
		num, den, e := Crest(level, n)
		if e != api.OK || level.Sum == 0 && (num != 0 || den != 1) || level.Sum > 0 && (num < den || num > n*den) {
			t.Fatalf("Crest of %v with %d = %d, %d, %d", level, n, num, den, e)
		}
	}
}
