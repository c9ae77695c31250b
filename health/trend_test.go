package health

import (
	"math"
	"math/big"
	"math/rand"
	"slices"
	"testing"

	"swashplate/api"
)

func TestP8_3TrendAndChance(t *testing.T) {
	for _, c := range []struct {
		values          []int
		trend, num, den int
	}{
		{[]int{3, 5, 4, 6}, 4, 1, 6}, {[]int{1, 2, 3, 4}, 6, 1, 24}, {[]int{2, 2}, 0, 1, 1}, {[]int{2, 1}, -1, 1, 1}, {[]int{5}, 0, 1, 1},
		{[]int{1, 2, 3, 4, 5, 6, 7, 8}, 28, 1, 40320}, {[]int{-1000000, 1000000}, 1, 1, 2}, {[]int{1, 1, 2}, 2, 1, 3},
	} {
		if n, e := Trend(c.values); n != c.trend || e != api.OK {
			t.Errorf("Trend(%v) = %d, %d", c.values, n, e)
		}
		if num, den, e := Chance(c.values); num != c.num || den != c.den || e != api.OK {
			t.Errorf("Chance(%v) = %d, %d, %d", c.values, num, den, e)
		}
	}
	for _, values := range [][]int{nil, make([]int, 9), {1000001}, {0, -1000001}, {math.MinInt, math.MaxInt}} {
		if n, e := Trend(values); n != 0 || e != api.ErrArg {
			t.Errorf("Trend(%v) = %d, %d", values, n, e)
		}
		if num, den, e := Chance(values); num != 0 || den != 0 || e != api.ErrArg {
			t.Errorf("Chance(%v) = %d, %d, %d", values, num, den, e)
		}
	}
}

func TestP8_3Alarm(t *testing.T) {
	up := []int{1, 2, 3, 4, 5}
	long := slices.Repeat([]int{9, 1}, 28)
	long = append(long, 1, 2, 3, 4, 5, 6, 7, 8)
	for _, c := range []struct {
		values                []int
		limit, num, den, want int
		e                     api.Errno
	}{
		{up, 3, 1, 24, 3, api.OK}, {up, 5, 1, 2, 4, api.OK}, {up, 1, 1, 1, 0, api.OK}, {up, 6, 1, 1, -1, api.OK}, {up, 1, 1, 121, -1, api.OK}, {up, 1, 1, 120, 4, api.OK}, {up, 0, 0, 1, -1, api.OK},
		{nil, 0, 1, 1, -1, api.OK}, {up, 1, 1000000, 1000000, 0, api.OK}, {up, 1000000, 1, 1, -1, api.OK}, {up, -1000000, 0, 1000000, -1, api.OK},
		{long, 8, 1, 40320, 63, api.OK}, {long, 1, 1, 1, 0, api.OK}, {long, 9, 1, 1000, -1, api.OK},
		{make([]int, 65), 2000000, -1, 0, 0, api.ErrMany},
		{[]int{1, 1000001}, 0, 1, 1, 0, api.ErrArg}, {up, 1000001, 1, 1, 0, api.ErrArg}, {up, -1000001, 1, 1, 0, api.ErrArg},
		{up, 0, -1, 1, 0, api.ErrArg}, {up, 0, 1000001, 1, 0, api.ErrArg}, {up, 0, 1, 0, 0, api.ErrArg}, {up, 0, 1, 1000001, 0, api.ErrArg},
	} {
		if n, e := Alarm(c.values, c.limit, c.num, c.den); n != c.want || e != c.e {
			t.Errorf("Alarm(%v, %d, %d, %d) = %d, %d", c.values, c.limit, c.num, c.den, n, e)
		}
	}
}

func TestP8_4SlopeAndForecast(t *testing.T) {
	hours, values := []int{0, 1, 2, 3}, []int{10, 12, 30, 16}
	if num, den, e := Slope(hours, values); num != 2 || den != 1 || e != api.OK {
		t.Errorf("Slope = %d, %d, %d", num, den, e)
	}
	if num, den, e := Forecast(hours, values, 10); num != 30 || den != 1 || e != api.OK {
		t.Errorf("Forecast = %d, %d, %d", num, den, e)
	}
	if num, den, e := Slope([]int{0, 4}, []int{3, 1}); num != -1 || den != 2 || e != api.OK {
		t.Errorf("Slope of two = %d, %d, %d", num, den, e)
	}
	if num, den, e := Forecast([]int{0, 4}, []int{3, 1}, 5); num != 1 || den != 2 || e != api.OK {
		t.Errorf("Forecast of two = %d, %d, %d", num, den, e)
	}
	if num, den, e := Slope([]int{0, 1, 2}, []int{7, 7, 7}); num != 0 || den != 1 || e != api.OK {
		t.Errorf("Slope of equal ones = %d, %d, %d", num, den, e)
	}
	if num, den, e := Forecast([]int{0, 1}, []int{-1000000, 1000000}, 1000000); num != -1000000+2000000*1000000 || den != 1 || e != api.OK {
		t.Errorf("Forecast of the greatest = %d, %d, %d", num, den, e)
	}
	if num, den, e := Slope([]int{0, 1000000}, []int{0, 1}); num != 1 || den != 1000000 || e != api.OK {
		t.Errorf("Slope of a long time = %d, %d, %d", num, den, e)
	}
	for i, c := range []struct {
		hours, values []int
		at            int
		e             api.Errno
	}{
		{[]int{0}, []int{5}, 0, api.ErrNone}, {nil, nil, 0, api.ErrArg}, {[]int{0, 1}, []int{5}, 0, api.ErrArg}, {[]int{1, 1}, []int{5, 6}, 0, api.ErrArg}, {[]int{2, 1}, []int{5, 6}, 0, api.ErrArg},
		{[]int{-1, 1}, []int{5, 6}, 0, api.ErrArg}, {[]int{0, 1000001}, []int{5, 6}, 0, api.ErrArg}, {[]int{0, 1}, []int{5, 1000001}, 0, api.ErrArg},
		{[]int{0, 1, 2, 3, 4, 5, 6, 7, 8}, make([]int, 9), 0, api.ErrArg}, {[]int{-1}, []int{5}, 0, api.ErrArg},
	} {
		if num, den, e := Slope(c.hours, c.values); num != 0 || den != 0 || e != c.e {
			t.Errorf("%d: Slope = %d, %d, %d", i, num, den, e)
		}
		if num, den, e := Forecast(c.hours, c.values, c.at); num != 0 || den != 0 || e != c.e {
			t.Errorf("%d: Forecast = %d, %d, %d", i, num, den, e)
		}
	}
	for _, at := range []int{-1, 1000001, math.MaxInt} {
		if _, _, e := Forecast(hours, values, at); e != api.ErrArg {
			t.Errorf("Forecast at %d: %d", at, e)
		}
		if _, _, e := Forecast([]int{0}, []int{1}, at); e != api.ErrArg {
			t.Errorf("Forecast of one at %d: %d", at, e)
		}
	}
}

func anyValues(r *rand.Rand, n int) []int {
	var l []int
	for range n {
		l = append(l, r.Intn(7)-3)
	}
	return l
}

func TestP8_9NoAlarmWithoutAReason(t *testing.T) {
	r := rand.New(rand.NewSource(1))
	for range 150 {
		values := anyValues(r, 1+r.Intn(6))
		n, _ := Trend(values)
		opposite := slices.Clone(values)
		slices.Reverse(opposite)
		if m, _ := Trend(opposite); m != -n {
			t.Fatalf("Trend of %v is %d, of the opposite %d", values, n, m)
		}
		// Orders one by one, by Heap's way.
		good, all := 0, 0
		order := slices.Clone(values)
		var permute func(k int)
		permute = func(k int) {
			if k == 1 {
				all++
				if m, _ := Trend(order); m >= n {
					good++
				}
				return
			}
			for i := range k {
				permute(k - 1)
				if j := i * (1 - k%2); true {
					order[j], order[k-1] = order[k-1], order[j]
				}
			}
		}
		permute(len(order))
		want := big.NewRat(int64(good), int64(all))
		num, den, e := Chance(values)
		if big.NewRat(int64(num), int64(den)).Cmp(want) != 0 || want.Num().Int64() != int64(num) || e != api.OK {
			t.Fatalf("Chance(%v) = %d, %d, %d, want %v", values, num, den, e, want)
		}
	}
	for range 60 {
		values, limit, p, q := anyValues(r, r.Intn(14)), r.Intn(5)-2, 1+r.Intn(10), 20
		at, e := Alarm(values, limit, p, q)
		want := -1
		for i := len(values) - 1; i >= 0; i-- {
			num, den, _ := Chance(values[max(0, i-7) : i+1])
			if values[i] >= limit && num*q <= p*den {
				want = i
			}
		}
		if at != want || e != api.OK {
			t.Fatalf("Alarm(%v, %d, %d, %d) = %d, %d, want %d", values, limit, p, q, at, e, want)
		}
	}
}

func TestP8_10ValuesOnALine(t *testing.T) {
	r := rand.New(rand.NewSource(2))
	for range 300 {
		n := 2 + r.Intn(7)
		a, b := r.Intn(200)-100, r.Intn(20)-10
		var hours, values []int
		h := r.Intn(5)
		for range n {
			hours, values = append(hours, h), append(values, a+b*h)
			h += 1 + r.Intn(6)
		}
		at := r.Intn(100)
		if num, den, e := Slope(hours, values); num != b || den != 1 || e != api.OK {
			t.Fatalf("Slope = %d, %d, %d", num, den, e)
		}
		if num, den, e := Forecast(hours, values, at); num != a+b*at || den != 1 || e != api.OK {
			t.Fatalf("Forecast = %d, %d, %d", num, den, e)
		}
		if n >= 5 {
			values[r.Intn(n)] = r.Intn(2000) - 1000
			if num, den, e := Slope(hours, values); num != b || den != 1 || e != api.OK {
				t.Fatalf("Slope of %v at %v = %d, %d, %d", values, hours, num, den, e)
			}
		}
	}
}

// TestMedians compares with fractions that are sorted by math/big.
func TestMedians(t *testing.T) {
	r := rand.New(rand.NewSource(3))
	for range 200 {
		n := 2 + r.Intn(7)
		size := []int{5, api.MaxLevel}[r.Intn(2)]
		var hours, values []int
		h := 0
		for range n {
			h += 1 + r.Intn(size/9+1)
			hours, values = append(hours, h), append(values, r.Intn(2*size+1)-size)
		}
		middle := func(l []*big.Rat) *big.Rat {
			slices.SortFunc(l, (*big.Rat).Cmp)
			return l[(len(l)-1)/2]
		}
		var slopes, ends []*big.Rat
		for i := range n {
			for k := i + 1; k < n; k++ {
				slopes = append(slopes, big.NewRat(int64(values[k]-values[i]), int64(hours[k]-hours[i])))
			}
		}
		want := middle(slopes)
		at := r.Intn(size)
		for i := range n {
			x := new(big.Rat).Mul(want, big.NewRat(int64(at-hours[i]), 1))
			ends = append(ends, x.Add(x, big.NewRat(int64(values[i]), 1)))
		}
		if num, den, e := Slope(hours, values); e != api.OK || big.NewInt(int64(num)).Cmp(want.Num()) != 0 || big.NewInt(int64(den)).Cmp(want.Denom()) != 0 {
			t.Fatalf("Slope(%v, %v) = %d, %d, %d, want %v", hours, values, num, den, e, want)
		}
		want = middle(ends)
		if num, den, e := Forecast(hours, values, at); e != api.OK || big.NewInt(int64(num)).Cmp(want.Num()) != 0 || big.NewInt(int64(den)).Cmp(want.Denom()) != 0 {
			t.Fatalf("Forecast(%v, %v, %d) = %d, %d, %d, want %v", hours, values, at, num, den, e, want)
		}
	}
}
