package sling

import (
	"math"
	"math/big"
	"math/rand"
	"slices"
	"testing"

	"swashplate/api"
)

func span(low, high int) api.Span { return api.Span{Low: low, High: high} }

// stiff and damped are the slings S and D of the document.
func stiff() api.Sling { return api.Sling{Num: 1, Damp: 0, Den: 1} }

func damped() api.Sling { return api.Sling{Num: 1, Damp: 1, Den: 2} }

func starts() api.Box { return api.Box{span(0, 10), alone(0)} }

func TestP7_1Check(t *testing.T) {
	for _, s := range []api.Sling{stiff(), damped(), {Den: 1}, {Num: 8, Damp: 4, Den: 4}, {Num: 2, Damp: 1, Den: 1}} {
		if e := Check(s); e != api.OK {
			t.Errorf("Check(%v) = %d", s, e)
		}
	}
	for _, s := range []api.Sling{{}, {Den: 5}, {Den: -1}, {Num: -1, Den: 1}, {Num: 3, Den: 1}, {Num: 9, Den: 4}, {Damp: -1, Den: 1}, {Damp: 2, Den: 1}, {Damp: 5, Den: 4}, {Num: math.MaxInt, Damp: math.MinInt, Den: math.MaxInt}} {
		if e := Check(s); e != api.ErrSling {
			t.Errorf("Check(%v) = %d", s, e)
		}
	}
}

func TestP7_1Swing(t *testing.T) {
	for _, c := range []struct {
		s     api.Sling
		start [2]int
		gusts []int
		want  [][2]int
	}{
		{stiff(), [2]int{10, 0}, make([]int, 6), [][2]int{{0, 1}, {-10, 1}, {-10, 1}, {0, 1}, {10, 1}, {10, 1}}},
		{damped(), [2]int{8, 0}, make([]int, 3), [][2]int{{4, 1}, {0, 1}, {-2, 1}}},
		{damped(), [2]int{1, 1}, []int{0, 1}, [][2]int{{1, 1}, {3, 2}}},
		{stiff(), [2]int{1000, -1000}, nil, nil},
		{api.Sling{Den: 4}, [2]int{1000, 1000}, slices.Repeat([]int{100}, 16), nil},
	} {
		l, e := Swing(c.s, c.start, c.gusts)
		if c.want == nil && len(c.gusts) > 0 {
			c.want = model(c.s, c.start, c.gusts)
		}
		if !slices.Equal(l, c.want) || e != api.OK {
			t.Errorf("Swing(%v, %v, %v) = %v, %d", c.s, c.start, c.gusts, l, e)
		}
	}
	for _, c := range []struct {
		s     api.Sling
		start [2]int
		gusts []int
		e     api.Errno
	}{
		{api.Sling{}, [2]int{9999, 0}, make([]int, 17), api.ErrSling},
		{stiff(), [2]int{9999, 0}, make([]int, 17), api.ErrMany},
		{stiff(), [2]int{1001, 0}, nil, api.ErrArg}, {stiff(), [2]int{0, -1001}, nil, api.ErrArg},
		{stiff(), [2]int{}, []int{0, 101}, api.ErrArg}, {stiff(), [2]int{}, []int{-101}, api.ErrArg}, {stiff(), [2]int{}, []int{math.MinInt}, api.ErrArg},
	} {
		if l, e := Swing(c.s, c.start, c.gusts); l != nil || e != c.e {
			t.Errorf("Swing(%v, %v, %v) = %v, %d", c.s, c.start, c.gusts, l, e)
		}
	}
}

// model follows the text of the document with fractions.
func model(s api.Sling, start [2]int, gusts []int) [][2]int {
	a, v := big.NewRat(int64(start[0]), 1), big.NewRat(int64(start[1]), 1)
	var row [][2]int
	for _, w := range gusts {
		x := new(big.Rat).Mul(big.NewRat(int64(s.Num), 1), a)
		x.Add(x, new(big.Rat).Mul(big.NewRat(int64(s.Damp), 1), v))
		x.Quo(x, big.NewRat(int64(s.Den), 1))
		v = new(big.Rat).Sub(v, x)
		v.Add(v, big.NewRat(int64(w), 1))
		a = new(big.Rat).Add(a, v)
		row = append(row, [2]int{int(a.Num().Int64()), int(a.Denom().Int64())})
	}
	return row
}

func rat(f [2]int) *big.Rat { return big.NewRat(int64(f[0]), int64(f[1])) }

func TestP7_1Calm(t *testing.T) {
	for _, c := range []struct {
		s     api.Sling
		start [2]int
		n     int
		band  api.Span
		want  int
		e     api.Errno
	}{
		{damped(), [2]int{8, 0}, 3, span(-2, 4), 1, api.OK}, {damped(), [2]int{8, 0}, 3, span(-1, 8), 0, api.ErrNone},
		{damped(), [2]int{8, 0}, 3, span(-2, 8), 0, api.OK}, {damped(), [2]int{8, 0}, 0, span(8, 8), 0, api.OK}, {damped(), [2]int{8, 0}, 0, span(9, 9), 0, api.ErrNone},
		{damped(), [2]int{8, 0}, 3, span(-2, -2), 3, api.OK}, {damped(), [2]int{1, 1}, 2, span(1, 1), 0, api.ErrNone}, {stiff(), [2]int{10, 0}, 16, span(-10, 10), 0, api.OK},
		{api.Sling{}, [2]int{9999, 0}, 17, span(1, 0), 0, api.ErrSling}, {damped(), [2]int{9999, 0}, 17, span(1, 0), 0, api.ErrSpan},
		{damped(), [2]int{1001, 0}, 0, span(0, 0), 0, api.ErrArg}, {damped(), [2]int{0, -1001}, 0, span(0, 0), 0, api.ErrArg},
		{damped(), [2]int{}, -1, span(0, 0), 0, api.ErrArg}, {damped(), [2]int{}, 17, span(0, 0), 0, api.ErrArg},
	} {
		if n, e := Calm(c.s, c.start, c.n, c.band); n != c.want || e != c.e {
			t.Errorf("Calm(%v, %v, %d, %v) = %d, %d", c.s, c.start, c.n, c.band, n, e)
		}
	}
}

func TestP7_2ReachAndWitness(t *testing.T) {
	for _, c := range []struct {
		n         int
		low, high [2]int
	}{{0, [2]int{0, 1}, [2]int{10, 1}}, {1, [2]int{-1, 1}, [2]int{2, 1}}, {2, [2]int{-12, 1}, [2]int{4, 1}}} {
		if low, high, e := Reach(stiff(), starts(), span(-1, 2), c.n); low != c.low || high != c.high || e != api.OK {
			t.Errorf("Reach of %d ticks = %v, %v, %d", c.n, low, high, e)
		}
	}
	if low, high, e := Reach(damped(), api.Box{span(1, 2), span(1, 1)}, span(0, 1), 2); low != [2]int{1, 2} || high != [2]int{5, 2} || e != api.OK {
		t.Errorf("Reach of the damped one = %v, %v, %d", low, high, e)
	}
	for _, c := range []struct {
		n     int
		high  bool
		start [2]int
		row   []int
	}{{2, false, [2]int{10, 0}, []int{-1, -1}}, {2, true, [2]int{0, 0}, []int{2, 2}}, {1, true, [2]int{0, 0}, []int{2}}, {1, false, [2]int{0, 0}, []int{-1}}, {0, true, [2]int{10, 0}, nil}, {0, false, [2]int{0, 0}, nil}} {
		if start, row, e := Witness(stiff(), starts(), span(-1, 2), c.n, c.high); start != c.start || !slices.Equal(row, c.row) || e != api.OK {
			t.Errorf("Witness of %d ticks, %v = %v, %v, %d", c.n, c.high, start, row, e)
		}
	}
}

func TestP7_3KeepsAndGust(t *testing.T) {
	for _, c := range []struct {
		n     int
		limit api.Span
		tick  int
		is    bool
	}{{3, span(-12, 12), 0, true}, {3, span(-11, 12), 2, false}, {3, span(-12, 9), 0, false}, {3, span(1, 12), 0, false}, {0, span(0, 10), 0, true}, {3, span(0, 12), 1, false}} {
		if tick, is, e := Keeps(stiff(), starts(), span(-1, 2), c.n, c.limit); tick != c.tick || is != c.is || e != api.OK {
			t.Errorf("Keeps of %d ticks in %v = %d, %v, %d", c.n, c.limit, tick, is, e)
		}
	}
	for _, c := range []struct {
		n     int
		limit api.Span
		want  int
		e     api.Errno
	}{{3, span(-12, 12), 1, api.OK}, {3, span(-9, 12), 0, api.ErrNone}, {3, span(-10, 10), 0, api.OK}, {0, span(0, 10), 100, api.OK}, {16, span(-1000000, 1000000), 100, api.OK}} {
		if n, e := Gust(stiff(), starts(), c.n, c.limit); n != c.want || e != c.e {
			t.Errorf("Gust of %d ticks in %v = %d, %d", c.n, c.limit, n, e)
		}
	}
}

func TestErrorsOfSets(t *testing.T) {
	calls := map[string]func(s api.Sling, b api.Box, gusts api.Span, n int, limit api.Span) api.Errno{
		"Reach": func(s api.Sling, b api.Box, gusts api.Span, n int, limit api.Span) api.Errno {
			low, high, e := Reach(s, b, gusts, n)
			if low != high {
				t.Errorf("Reach = %v, %v", low, high)
			}
			return e
		},
		"Witness": func(s api.Sling, b api.Box, gusts api.Span, n int, limit api.Span) api.Errno {
			_, row, e := Witness(s, b, gusts, n, true)
			if row != nil {
				t.Errorf("Witness = %v", row)
			}
			return e
		},
		"Keeps": func(s api.Sling, b api.Box, gusts api.Span, n int, limit api.Span) api.Errno {
			_, _, e := Keeps(s, b, gusts, n, limit)
			return e
		},
		"Gust": func(s api.Sling, b api.Box, gusts api.Span, n int, limit api.Span) api.Errno {
			_, e := Gust(s, b, n, limit)
			return e
		},
	}
	wide := api.Box{span(-1001, 0), alone(0), alone(0)}
	for name, f := range calls {
		if e := f(api.Sling{}, nil, span(1, 0), -1, span(1, 0)); e != api.ErrSling {
			t.Errorf("%s: %d", name, e)
		}
		if e := f(stiff(), nil, span(-101, 0), -1, alone(0)); e != api.ErrSpan {
			t.Errorf("%s without a box: %d", name, e)
		}
		if e := f(stiff(), api.Box{span(1, 0), alone(0)}, alone(0), -1, alone(0)); e != api.ErrSpan {
			t.Errorf("%s without starts: %d", name, e)
		}
		if e := f(stiff(), wide, span(1, 0), -1, alone(0)); (e == api.ErrSpan) != (name != "Gust") {
			t.Errorf("%s without gusts: %d", name, e)
		}
		if e := f(stiff(), wide, alone(0), -1, span(0, 1000001)); (e == api.ErrSpan) != (name == "Keeps" || name == "Gust") {
			t.Errorf("%s without a limit: %d", name, e)
		}
		for i, b := range []api.Box{wide, {alone(0)}, {alone(0), span(0, 1001)}, {span(-1001, 0), alone(0)}, {alone(0), alone(0), alone(0)}} {
			if e := f(stiff(), b, alone(0), 1, alone(0)); e != api.ErrArg {
				t.Errorf("%s of the box %d: %d", name, i, e)
			}
		}
		for _, g := range []api.Span{span(-101, 0), span(0, 101)} {
			if e := f(stiff(), api.Box{alone(5), alone(0)}, g, 0, alone(5)); (e == api.ErrArg) != (name != "Gust") {
				t.Errorf("%s with the gusts %v: %d", name, g, e)
			}
		}
		for _, n := range []int{-1, 17, math.MaxInt, math.MinInt} {
			if e := f(stiff(), starts(), alone(0), n, alone(0)); e != api.ErrArg {
				t.Errorf("%s of %d ticks: %d", name, n, e)
			}
		}
	}
}

func anySling(r *rand.Rand) api.Sling {
	den := 1 + r.Intn(4)
	return api.Sling{Num: r.Intn(2*den + 1), Damp: r.Intn(den + 1), Den: den}
}

func some(r *rand.Rand, low, high int) api.Span {
	a, b := low+r.Intn(high-low+1), low+r.Intn(high-low+1)
	return span(min(a, b), max(a, b))
}

// each calls f with all starts and rows of gusts of sets.
func each(b api.Box, gusts api.Span, n int, f func(start [2]int, row []int)) {
	var extend func(row []int)
	var start [2]int
	extend = func(row []int) {
		if len(row) == n {
			f(start, row)
			return
		}
		for g := gusts.Low; g <= gusts.High; g++ {
			extend(append(slices.Clone(row), g))
		}
	}
	for a := b[0].Low; a <= b[0].High; a++ {
		for v := b[1].Low; v <= b[1].High; v++ {
			start = [2]int{a, v}
			extend(nil)
		}
	}
}

func last(s api.Sling, start [2]int, row []int) *big.Rat {
	l := append([][2]int{{start[0], 1}}, model(s, start, row)...)
	return rat(l[len(l)-1])
}

func TestP7_5EveryStartAndEveryGust(t *testing.T) {
	r := rand.New(rand.NewSource(1))
	kept := 0
	for range 60 {
		s, b, gusts, n := anySling(r), api.Box{some(r, -3, 3), some(r, -2, 2)}, some(r, -1, 1), r.Intn(4)
		var low, high *big.Rat
		limit := span(-3-r.Intn(8), 3+r.Intn(8))
		out := n + 1
		each(b, gusts, n, func(start [2]int, row []int) {
			x := last(s, start, row)
			if low == nil || x.Cmp(low) < 0 {
				low = x
			}
			if high == nil || x.Cmp(high) > 0 {
				high = x
			}
			for tick := range n + 1 {
				y := last(s, start, row[:tick])
				if y.Cmp(big.NewRat(int64(limit.Low), 1)) < 0 || y.Cmp(big.NewRat(int64(limit.High), 1)) > 0 {
					out = min(out, tick)
				}
			}
		})
		gotLow, gotHigh, e := Reach(s, b, gusts, n)
		if rat(gotLow).Cmp(low) != 0 || rat(gotHigh).Cmp(high) != 0 || e != api.OK || gotLow[1] < 1 || gotHigh[1] < 1 {
			t.Fatalf("Reach(%v, %v, %v, %d) = %v, %v, %d, want %v, %v", s, b, gusts, n, gotLow, gotHigh, e, low, high)
		}
		for _, top := range []bool{false, true} {
			start, row, e := Witness(s, b, gusts, n, top)
			want := low
			if top {
				want = high
			}
			if last(s, start, row).Cmp(want) != 0 || len(row) != n || e != api.OK {
				t.Fatalf("Witness(%v, %v, %v, %d, %v) = %v, %v, %d", s, b, gusts, n, top, start, row, e)
			}
			numbers := append(start[:], row...)
			for i, span := range append(slices.Clone(b), slices.Repeat([]api.Span{gusts}, n)...) {
				other := slices.Clone(numbers)
				other[i] = span.Low + span.High - numbers[i]
				same := last(s, [2]int(other[:2]), other[2:]).Cmp(want) == 0
				if numbers[i] != span.Low && (numbers[i] != span.High || same) {
					t.Fatalf("Witness(%v, %v, %v, %d, %v) = %v", s, b, gusts, n, top, numbers)
				}
			}
		}
		tick, is, e := Keeps(s, b, gusts, n, limit)
		if is != (out > n) || is && tick != 0 || !is && tick != out || e != api.OK {
			t.Fatalf("Keeps(%v, %v, %v, %d, %v) = %d, %v, %d, want %d", s, b, gusts, n, limit, tick, is, e, out)
		}
		if is {
			kept++
			smaller := api.Box{span(b[0].Low, b[0].Low), span(b[1].High, b[1].High)}
			if _, is, _ := Keeps(s, smaller, span(gusts.High, gusts.High), n, limit); !is {
				t.Fatal("a smaller set does not keep the limit")
			}
		}
	}
	if kept < 10 {
		t.Errorf("only %d keep the limit", kept)
	}
}

// TestP7_6TheLoadKeepsItsEnvelope checks that the witness of the first tick is out of the limit.
func TestP7_6TheLoadKeepsItsEnvelope(t *testing.T) {
	r := rand.New(rand.NewSource(2))
	left := 0
	for range 200 {
		s, b, gusts, n := anySling(r), api.Box{some(r, -1000, 1000), some(r, -1000, 1000)}, some(r, -100, 100), r.Intn(17)
		limit := span(-1000-r.Intn(1500), 1000+r.Intn(1500))
		tick, is, e := Keeps(s, b, gusts, n, limit)
		if e != api.OK {
			t.Fatal(e)
		}
		if is {
			continue
		}
		left++
		out := false
		for _, top := range []bool{false, true} {
			start, row, _ := Witness(s, b, gusts, tick, top)
			x := last(s, start, row)
			out = out || x.Cmp(big.NewRat(int64(limit.Low), 1)) < 0 || x.Cmp(big.NewRat(int64(limit.High), 1)) > 0
		}
		if !out {
			t.Fatalf("Keeps(%v, %v, %v, %d, %v) = %d, but it stays there", s, b, gusts, n, limit, tick)
		}
	}
	if left < 20 {
		t.Errorf("only %d leave the limit", left)
	}
}

func TestP7_7Linear(t *testing.T) {
	r := rand.New(rand.NewSource(3))
	for range 100 {
		s, n := anySling(r), r.Intn(17)
		var one, two, sum []int
		p, q := [2]int{r.Intn(800) - 400, r.Intn(800) - 400}, [2]int{r.Intn(800) - 400, r.Intn(800) - 400}
		for i := range n {
			one, two = append(one, r.Intn(81)-40), append(two, r.Intn(81)-40)
			sum = append(sum, one[i]+two[i])
		}
		a, _ := Swing(s, p, one)
		b, _ := Swing(s, q, two)
		c, e := Swing(s, [2]int{p[0] + q[0], p[1] + q[1]}, sum)
		if e != api.OK || !slices.Equal(c, model(s, [2]int{p[0] + q[0], p[1] + q[1]}, sum)) {
			t.Fatalf("Swing = %v, %d", c, e)
		}
		still, _ := Swing(s, p, make([]int, n))
		opposite, _ := Swing(s, [2]int{-p[0], -p[1]}, make([]int, n))
		for i := range n {
			if new(big.Rat).Add(rat(a[i]), rat(b[i])).Cmp(rat(c[i])) != 0 {
				t.Fatalf("%v and %v are not %v", a[i], b[i], c[i])
			}
			if still[i] != [2]int{-opposite[i][0], opposite[i][1]} {
				t.Fatalf("%v is not opposite to %v", opposite[i], still[i])
			}
		}
	}
}

func TestP7_8GustIsTheGreatest(t *testing.T) {
	r := rand.New(rand.NewSource(4))
	found := 0
	for range 100 {
		s, b, n := anySling(r), api.Box{some(r, -50, 50), some(r, -20, 20)}, r.Intn(17)
		limit := span(-100-r.Intn(500), 100+r.Intn(500))
		want, e := 0, api.ErrNone
		for g := range api.MaxGust + 1 {
			if _, is, _ := Keeps(s, b, span(-g, g), n, limit); is {
				want, e = g, api.OK
			}
		}
		if g, got := Gust(s, b, n, limit); g != want || got != e {
			t.Fatalf("Gust(%v, %v, %d, %v) = %d, %d, want %d, %d", s, b, n, limit, g, got, want, e)
		}
		if e == api.OK && want < 100 {
			found++
		}
	}
	if found < 10 {
		t.Errorf("only %d limits", found)
	}
}

func TestCalmIsTheFirst(t *testing.T) {
	r := rand.New(rand.NewSource(5))
	for range 200 {
		s, start, n, band := anySling(r), [2]int{r.Intn(21) - 10, r.Intn(11) - 5}, r.Intn(17), some(r, -12, 12)
		l := append([][2]int{{start[0], 1}}, model(s, start, make([]int, n))...)
		want := n + 1
		for want > 0 && rat(l[want-1]).Cmp(big.NewRat(int64(band.Low), 1)) >= 0 && rat(l[want-1]).Cmp(big.NewRat(int64(band.High), 1)) <= 0 {
			want--
		}
		k, e := Calm(s, start, n, band)
		if want <= n && (k != want || e != api.OK) || want > n && (k != 0 || e != api.ErrNone) {
			t.Fatalf("Calm(%v, %v, %d, %v) = %d, %d, want %d", s, start, n, band, k, e, want)
		}
	}
}

func TestTheGreatestSets(t *testing.T) {
	all := span(-1000, 1000)
	if low, high, e := Reach(stiff(), api.Box{all, all}, span(-100, 100), 1); low != [2]int{-1100, 1} || high != [2]int{1100, 1} || e != api.OK {
		t.Errorf("Reach of all = %v, %v, %d", low, high, e)
	}
	if l, e := Swing(stiff(), [2]int{-1000, 1000}, []int{-100, 100}); !slices.Equal(l, [][2]int{{900, 1}, {2000, 1}}) || e != api.OK {
		t.Errorf("Swing = %v, %d", l, e)
	}
	if start, row, e := Witness(api.Sling{Num: 1, Den: 1}, api.Box{span(-5, 5), span(-5, 5)}, span(-1, 1), 1, true); start != [2]int{-5, 5} || !slices.Equal(row, []int{1}) || e != api.OK {
		t.Errorf("Witness where the displacement does not matter = %v, %v, %d", start, row, e)
	}
}
