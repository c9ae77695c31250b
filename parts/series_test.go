package parts

import (
	"math"
	"math/rand"
	"slices"
	"testing"

	"swashplate/api"
	"swashplate/spans"
)

func span(low, high int) api.Span { return api.Span{Low: low, High: high} }

func TestP9_3GapsAndDoubles(t *testing.T) {
	for _, c := range []struct {
		hours         int
		pages         []api.Span
		gaps, doubles []api.Span
	}{
		{10, []api.Span{span(0, 3), span(2, 6)}, []api.Span{span(7, 9)}, []api.Span{span(2, 3)}},
		{10, nil, []api.Span{span(0, 9)}, nil},
		{0, nil, nil, nil},
		{10, []api.Span{span(3, 4), span(6, 6), span(4, 6), span(3, 6)}, []api.Span{span(0, 2), span(7, 9)}, []api.Span{span(3, 6)}},
		{100000, []api.Span{span(0, 99999)}, nil, nil}, {2, slices.Repeat([]api.Span{span(0, 0)}, 20), []api.Span{span(1, 1)}, []api.Span{span(0, 0)}},
	} {
		if l, e := Gaps(c.hours, c.pages); !slices.Equal(l, c.gaps) || e != api.OK {
			t.Errorf("Gaps of %d in %v = %v, %d", c.hours, c.pages, l, e)
		}
		if l, e := Doubles(c.hours, c.pages); !slices.Equal(l, c.doubles) || e != api.OK {
			t.Errorf("Doubles of %d in %v = %v, %d", c.hours, c.pages, l, e)
		}
	}
	for _, c := range []struct {
		hours int
		pages []api.Span
		e     api.Errno
	}{
		{-1, make([]api.Span, 21), api.ErrArg}, {100001, nil, api.ErrArg}, {0, make([]api.Span, 21), api.ErrMany}, {0, make([]api.Span, 1), api.ErrSpan}, {5, []api.Span{span(0, 5)}, api.ErrSpan},
		{5, []api.Span{span(-1, 4)}, api.ErrSpan}, {5, []api.Span{span(0, 4), span(3, 2)}, api.ErrSpan}, {math.MaxInt, nil, api.ErrArg},
	} {
		if l, e := Gaps(c.hours, c.pages); l != nil || e != c.e {
			t.Errorf("Gaps of %d in %v = %v, %d", c.hours, c.pages, l, e)
		}
		if l, e := Doubles(c.hours, c.pages); l != nil || e != c.e {
			t.Errorf("Doubles of %d in %v = %v, %d", c.hours, c.pages, l, e)
		}
	}
}

func TestP9_10EachHour(t *testing.T) {
	r := rand.New(rand.NewSource(1))
	for range 300 {
		hours := 1 + r.Intn(30)
		var pages []api.Span
		var boxes []api.Box
		for range r.Intn(8) {
			low := r.Intn(hours)
			pages = append(pages, span(low, min(hours-1, low+r.Intn(9))))
			boxes = append(boxes, api.Box{pages[len(pages)-1]})
		}
		gaps, _ := Gaps(hours, pages)
		doubles, _ := Doubles(hours, pages)
		in := func(l []api.Span, hour int) int {
			n := 0
			for _, s := range l {
				if hour >= s.Low && hour <= s.High {
					n++
				}
			}
			return n
		}
		for hour := range hours {
			n := in(pages, hour)
			if in(gaps, hour) != max(0, 1-n) || in(doubles, hour) != min(1, max(0, n-1)) {
				t.Fatalf("the hour %d of %v: Gaps %v, Doubles %v", hour, pages, gaps, doubles)
			}
		}
		for _, l := range [][]api.Span{gaps, doubles} {
			for i := 1; i < len(l); i++ {
				if l[i].Low <= l[i-1].High+1 {
					t.Fatalf("%v are not the fewest spans", l)
				}
			}
		}
		if _, is, _ := spans.Covers(api.Box{span(0, hours-1)}, boxes); is != (len(gaps) == 0) {
			t.Fatalf("Covers is %v, Gaps are %v", is, gaps)
		}
	}
}

func TestP9_4CyclesAndDamage(t *testing.T) {
	for _, c := range []struct {
		series []int
		want   [][2]int
	}{
		{[]int{0, 5, 2, 4, 1, 6, 0}, [][2]int{{2, 2}, {4, 2}, {6, 1}, {6, 1}}},
		{nil, nil}, {[]int{3}, nil}, {[]int{3, 3, 3}, nil}, {[]int{3, 3, 5}, [][2]int{{2, 1}}}, {[]int{0, 1, 2, 3, 3, 2}, [][2]int{{3, 1}, {1, 1}}},
		{[]int{0, 5, 2, 4, 2}, [][2]int{{2, 2}, {5, 1}, {3, 1}}}, {[]int{3, 0, 3, 0}, [][2]int{{3, 1}, {3, 1}, {3, 1}}}, {[]int{0, 4, 1, 4, 0}, [][2]int{{3, 2}, {4, 1}, {4, 1}}},
		{[]int{0, 2, -2}, [][2]int{{2, 1}, {4, 1}}}, {[]int{0, 2, 0}, [][2]int{{2, 1}, {2, 1}}},
		{[]int{-2, 1, -3, 5, -1, 3, -4, 4, -2}, [][2]int{{3, 1}, {4, 1}, {4, 2}, {8, 1}, {9, 1}, {8, 1}, {6, 1}}},
		{[]int{-1000000, 1000000}, [][2]int{{2000000, 1}}},
	} {
		if l, e := Cycles(c.series); !slices.Equal(l, c.want) || e != api.OK {
			t.Errorf("Cycles of %v = %v, %d", c.series, l, e)
		}
	}
	series := []int{0, 5, 2, 4, 1, 6, 0}
	eight := [][2]int{{0, 1}, {1, 2}, {2, 3}, {3, 4}, {4, 5}, {5, 6}, {6, 7}, {7, 8}}
	for _, c := range []struct {
		steps [][2]int
		want  int
	}{{[][2]int{{2, 1}, {5, 10}}, 24}, {nil, 0}, {[][2]int{{7, 100}}, 0}, {[][2]int{{1, 1000000}, {1000000, 0}}, 6000000}, {[][2]int{{0, 1}}, 6}, {[][2]int{{4, 5}, {6, 0}}, 10}, {eight, 2*3 + 2*5 + 7 + 7}} {
		if n, e := Damage(series, c.steps); n != c.want || e != api.OK {
			t.Errorf("Damage with %v = %d, %d", c.steps, n, e)
		}
	}
	for _, steps := range [][][2]int{append(eight, [2]int{8, 9}), {{-1, 0}}, {{0, -1}}, {{1000001, 0}}, {{0, 1000001}}, {{1, 2}, {1, 3}}, {{2, 2}, {1, 3}}} {
		if n, e := Damage(series, steps); n != 0 || e != api.ErrArg {
			t.Errorf("Damage with %v = %d, %d", steps, n, e)
		}
	}
	for _, c := range []struct {
		series []int
		e      api.Errno
	}{{slices.Repeat([]int{math.MaxInt}, 301), api.ErrMany}, {[]int{0, 1000001}, api.ErrArg}, {[]int{-1000001}, api.ErrArg}, {slices.Repeat([]int{-1000000, 1000000}, 150), api.OK}} {
		l, e := Cycles(c.series)
		if e != c.e || e != api.OK && l != nil {
			t.Errorf("Cycles of %v = %v, %d", c.series, l, e)
		}
		if n, e := Damage(c.series, nil); n != 0 || e != c.e {
			t.Errorf("Damage of %v = %d, %d", c.series, n, e)
		}
	}
}

func TestP9_11EveryLoadIsCounted(t *testing.T) {
	r := rand.New(rand.NewSource(2))
	for range 500 {
		var series, moved, opposite, repeated []int
		for range r.Intn(20) {
			n := r.Intn(13) - 6
			series, moved, opposite = append(series, n), append(moved, n+77), append(opposite, -n)
			repeated = append(repeated, slices.Repeat([]int{n}, 1+r.Intn(3))...)
		}
		cycles, e := Cycles(series)
		for i, l := range [][]int{moved, opposite, repeated} {
			if other, e := Cycles(l); !slices.Equal(other, cycles) || e != api.OK {
				t.Fatalf("%d: Cycles of %v = %v, of %v %v, %d", i, series, cycles, l, other, e)
			}
		}
		points := 0
		for i, n := range series {
			k := i + 1
			for k < len(series) && series[k] == n {
				k++
			}
			if i > 0 && series[i-1] == n {
				continue
			}
			if i == 0 || k == len(series) || (series[i-1] < n) != (n < series[k]) {
				points++
			}
		}
		halves, greatest := 0, 0
		for _, c := range cycles {
			halves, greatest = halves+c[1], max(greatest, c[0])
		}
		if halves != max(0, points-1) || e != api.OK || len(series) > 0 && greatest != slices.Max(series)-slices.Min(series) {
			t.Fatalf("Cycles of %v = %v, %d: %d halves of %d points", series, cycles, e, halves, points)
		}
		steps := [][2]int{{1, 2}, {4, 5}}
		less, _ := Damage(series, steps)
		if more, _ := Damage(series, append(steps, [2]int{7, 5 + r.Intn(3)})); more < less {
			t.Fatalf("Damage of %v is %d, with one step more %d", series, less, more)
		}
		sum := 0
		for _, c := range cycles {
			if c[0] >= 4 {
				sum += 5 * c[1]
			} else if c[0] >= 1 {
				sum += 2 * c[1]
			}
		}
		if sum != less {
			t.Fatalf("Damage of %v = %d, want %d", series, less, sum)
		}
	}
}

func TestP9_5Plan(t *testing.T) {
	for _, c := range []struct {
		spares, flights, parts []int
		changes                int
		e                      api.Errno
	}{
		{[]int{5, 8}, []int{3, 4, 2, 3}, []int{1, 1, 0, 0}, 1, api.OK}, {[]int{5}, []int{6}, nil, 0, api.ErrNone}, {[]int{5}, nil, nil, 0, api.OK}, {[]int{0, 5}, []int{5}, []int{1}, 0, api.OK},
		{[]int{3, 3, 3}, []int{3, 3, 3}, []int{0, 1, 2}, 2, api.OK}, {[]int{6, 2, 4}, []int{2, 4, 2, 4}, []int{0, 0, 1, 2}, 2, api.OK},
		{[]int{100000, 100000}, []int{100000, 100000}, []int{0, 1}, 1, api.OK}, {slices.Repeat([]int{1}, 6), slices.Repeat([]int{1}, 8), nil, 0, api.ErrNone},
		{nil, []int{1}, nil, 0, api.ErrArg}, {make([]int, 7), []int{1}, nil, 0, api.ErrArg}, {[]int{-1}, nil, nil, 0, api.ErrArg}, {[]int{100001}, nil, nil, 0, api.ErrArg},
		{[]int{5}, []int{0}, nil, 0, api.ErrArg}, {[]int{5}, []int{100001}, nil, 0, api.ErrArg}, {[]int{100}, slices.Repeat([]int{1}, 9), nil, 0, api.ErrArg}, {[]int{100}, slices.Repeat([]int{1}, 8), make([]int, 8), 0, api.OK},
	} {
		if l, n, e := Plan(c.spares, c.flights); !slices.Equal(l, c.parts) || n != c.changes || e != c.e {
			t.Errorf("Plan of %v and %v = %v, %d, %d", c.spares, c.flights, l, n, e)
		}
	}
}

func TestP9_12NoOtherListHasFewerChanges(t *testing.T) {
	r := rand.New(rand.NewSource(3))
	none := 0
	for range 300 {
		var spares, flights []int
		for range 1 + r.Intn(3) {
			spares = append(spares, r.Intn(12))
		}
		for range r.Intn(6) {
			flights = append(flights, 1+r.Intn(5))
		}
		var best []int
		fewest := math.MaxInt
		lists := 1
		for range flights {
			lists *= len(spares)
		}
		for code := range lists {
			list, left, changes := make([]int, len(flights)), slices.Clone(spares), 0
			rest := code
			for i := len(flights) - 1; i >= 0; i-- {
				list[i] = rest % len(spares)
				rest /= len(spares)
			}
			for i, p := range list {
				left[p] -= flights[i]
				if i > 0 && list[i-1] != p {
					changes++
				}
			}
			if slices.Min(left) >= 0 && changes < fewest {
				best, fewest = list, changes
			}
		}
		l, n, e := Plan(spares, flights)
		if fewest == math.MaxInt {
			none++
			if l != nil || n != 0 || e != api.ErrNone {
				t.Fatalf("Plan of %v and %v = %v, %d, %d", spares, flights, l, n, e)
			}
			continue
		}
		if !slices.Equal(l, best) || n != fewest || e != api.OK {
			t.Fatalf("Plan of %v and %v = %v, %d, %d, want %v, %d", spares, flights, l, n, e, best, fewest)
		}
		spares[r.Intn(len(spares))] += 3
		if _, more, e := Plan(spares, flights); more > n || e != api.OK {
			t.Fatalf("Plan with more hours has %d changes, %d; before %d", more, e, n)
		}
	}
	if none < 20 {
		t.Errorf("only %d are not possible", none)
	}
}
