package spans

import (
	"math"
	"math/big"
	"math/rand"
	"slices"
	"testing"

	"swashplate/api"
	"swashplate/samples"
)

func hill() api.Table { return samples.Table() }

func knots(r *rand.Rand) []int {
	n := r.Intn(20) - 10
	l := []int{n}
	for range 1 + r.Intn(3) {
		n += 1 + r.Intn(4)
		l = append(l, n)
	}
	return l
}

func anyTable(r *rand.Rand) api.Table {
	t := api.Table{X: knots(r), Y: knots(r)}
	size := []int{3, 30, most}[r.Intn(3)]
	for range t.X {
		var row []int
		for range t.Y {
			row = append(row, r.Intn(2*size+1)-size)
		}
		t.Values = append(t.Values, row)
	}
	return t
}

// inside returns a span on an axis.
func inside(r *rand.Rand, axis []int) api.Span {
	size := axis[len(axis)-1] - axis[0] + 1
	a, b := axis[0]+r.Intn(size), axis[0]+r.Intn(size)
	return span(min(a, b), max(a, b))
}

// exact is the formula of the document, in each part that has the point.
func exact(f api.Table, x, y int) *big.Rat {
	var v *big.Rat
	for i := range len(f.X) - 1 {
		for k := range len(f.Y) - 1 {
			if x < f.X[i] || x > f.X[i+1] || y < f.Y[k] || y > f.Y[k+1] {
				continue
			}
			n := (f.X[i+1]-x)*(f.Y[k+1]-y)*f.Values[i][k] + (x-f.X[i])*(f.Y[k+1]-y)*f.Values[i+1][k] +
				(f.X[i+1]-x)*(y-f.Y[k])*f.Values[i][k+1] + (x-f.X[i])*(y-f.Y[k])*f.Values[i+1][k+1]
			v = big.NewRat(int64(n), int64((f.X[i+1]-f.X[i])*(f.Y[k+1]-f.Y[k])))
		}
	}
	return v
}

func around(v *big.Rat) api.Span {
	n := new(big.Int).Div(v.Num(), v.Denom()) // Euclidean: down, as denominators are positive
	low := int(n.Int64())
	if v.IsInt() {
		return span(low, low)
	}
	return span(low, low+1)
}

func TestP1_1CheckTable(t *testing.T) {
	great := api.Table{}
	for i := range 12 {
		great.X = append(great.X, -most+i*10000)
		great.Y = append(great.Y, most-110000+i*10000)
		great.Values = append(great.Values, slices.Repeat([]int{most - i%2*2*most}, 12))
	}
	for i, f := range []api.Table{hill(), great} {
		if e := CheckTable(f); e != api.OK {
			t.Errorf("%d: %d", i, e)
		}
	}
	for i, change := range []func(f *api.Table){
		func(f *api.Table) { f.X = nil },
		func(f *api.Table) { f.X = f.X[:1]; f.Values = f.Values[:1] },
		func(f *api.Table) { f.Y = f.Y[:1] },
		func(f *api.Table) { f.X[1] = 0 },
		func(f *api.Table) { f.X[1] = 21 },
		func(f *api.Table) { f.Y[0] = 5 },
		func(f *api.Table) { f.X[2] = 10011 },
		func(f *api.Table) { f.Y[1] = 10001 },
		func(f *api.Table) { f.X = []int{most - 1, most, most + 1} },
		func(f *api.Table) { f.X = []int{-most - 1, -most, -most + 1} },
		func(f *api.Table) { f.X = []int{math.MinInt, 0, math.MaxInt} },
		func(f *api.Table) { f.Values = f.Values[:2] },
		func(f *api.Table) { f.Values = append(f.Values, []int{1, 2}) },
		func(f *api.Table) { f.Values[2] = nil },
		func(f *api.Table) { f.Values[1] = []int{1, 2, 3} },
		func(f *api.Table) { f.Values[0][0] = most + 1 },
		func(f *api.Table) { f.Values[2][1] = -most - 1 },
		func(f *api.Table) {
			f.Y = []int{0, 1, 2, 3, 4, 5, 6, 7, 8, 9, 10, 11, 12}
			for i := range f.Values {
				f.Values[i] = make([]int, 13)
			}
		},
	} {
		f := hill()
		change(&f)
		if e := CheckTable(f); e != api.ErrTable {
			t.Errorf("%d: %d", i, e)
		}
	}
}

func TestP1_8At(t *testing.T) {
	for _, c := range []struct {
		x, y int
		want api.Span
	}{{5, 0, span(10, 10)}, {3, 1, span(8, 8)}, {20, 5, span(50, 50)}, {10, 0, span(20, 20)}, {11, 1, span(21, 22)}, {0, 0, span(0, 0)}} {
		if s, e := At(hill(), c.x, c.y); s != c.want || e != api.OK {
			t.Errorf("At(%d, %d) = %v, %d", c.x, c.y, s, e)
		}
	}
	low := api.Table{X: []int{0, 2}, Y: []int{0, 2}, Values: [][]int{{-1, -1}, {0, 0}}}
	if s, e := At(low, 1, 1); s != span(-1, 0) || e != api.OK {
		t.Errorf("At below 0 = %v, %d", s, e)
	}
	for _, p := range [][2]int{{21, 0}, {-1, 0}, {0, -1}, {0, 6}, {math.MaxInt, 0}, {0, math.MinInt}} {
		if s, e := At(hill(), p[0], p[1]); s != (api.Span{}) || e != api.ErrArg {
			t.Errorf("At(%v) = %v, %d", p, s, e)
		}
	}
	if _, e := At(api.Table{}, 0, 0); e != api.ErrTable {
		t.Errorf("At of nothing: %d", e)
	}
}

func TestP1_9To11Box(t *testing.T) {
	x, y := span(5, 15), span(0, 5)
	if s, e := Bound(hill(), x, y); s != span(10, 40) || e != api.OK {
		t.Errorf("Bound = %v, %d", s, e)
	}
	if a, b, e := Worst(hill(), x, y); a != 15 || b != 5 || e != api.OK {
		t.Errorf("Worst = %d, %d, %d", a, b, e)
	}
	for _, c := range []struct {
		limit, x, y int
		is          bool
	}{{30, 15, 5, false}, {20, 10, 5, false}, {40, 0, 0, true}, {39, 15, 5, false}, {math.MaxInt, 0, 0, true}, {math.MinInt, 5, 0, false}} {
		if a, b, is, e := Below(hill(), x, y, c.limit); a != c.x || b != c.y || is != c.is || e != api.OK {
			t.Errorf("Below %d = %d, %d, %v, %d", c.limit, a, b, is, e)
		}
	}
	for _, c := range []struct {
		f    api.Table
		x, y api.Span
		e    api.Errno
	}{
		{api.Table{}, span(1, 0), y, api.ErrTable},
		{hill(), span(1, 0), span(0, 9), api.ErrSpan},
		{hill(), span(0, 21), span(1, 0), api.ErrSpan},
		{hill(), span(0, 21), y, api.ErrArg},
		{hill(), span(-1, 1), y, api.ErrArg},
		{hill(), x, span(-1, 5), api.ErrArg},
		{hill(), x, span(0, 6), api.ErrArg},
	} {
		if s, e := Bound(c.f, c.x, c.y); s != (api.Span{}) || e != c.e {
			t.Errorf("Bound(%v, %v) = %v, %d", c.x, c.y, s, e)
		}
		if a, b, e := Worst(c.f, c.x, c.y); a != 0 || b != 0 || e != c.e {
			t.Errorf("Worst(%v, %v) = %d, %d, %d", c.x, c.y, a, b, e)
		}
		if a, b, is, e := Below(c.f, c.x, c.y, 0); a != 0 || b != 0 || is || e != c.e {
			t.Errorf("Below(%v, %v) = %d, %d, %v, %d", c.x, c.y, a, b, is, e)
		}
	}
}

func TestP1_12Greatest(t *testing.T) {
	for _, c := range []struct {
		y           api.Span
		limit, want int
		e           api.Errno
	}{
		{span(0, 5), 29, 9, api.OK}, {span(0, 5), 9, 0, api.ErrNone}, {span(0, 5), 10, 0, api.OK}, {span(0, 0), 12, 20, api.OK},
		{span(0, 0), 9, 4, api.OK}, {span(0, 5), math.MaxInt, 20, api.OK}, {span(0, 5), math.MinInt, 0, api.ErrNone}, {span(0, 5), 31, 10, api.OK},
		{span(1, 0), 0, 0, api.ErrSpan}, {span(0, 6), 0, 0, api.ErrArg}, {span(-1, 0), 0, 0, api.ErrArg},
	} {
		if n, e := Greatest(hill(), c.y, c.limit); n != c.want || e != c.e {
			t.Errorf("Greatest(%v, %d) = %d, %d", c.y, c.limit, n, e)
		}
	}
	if _, e := Greatest(api.Table{}, span(1, 0), 0); e != api.ErrTable {
		t.Errorf("Greatest of nothing: %d", e)
	}
}

// TestP1_16EachPoint compares with the exact value at each point with whole numbers.
func TestP1_16EachPoint(t *testing.T) {
	r := rand.New(rand.NewSource(5))
	for range 500 {
		f := anyTable(r)
		x, y := inside(r, f.X), inside(r, f.Y)
		var worst *big.Rat
		var atX, atY int
		want := span(most, -most)
		for i := x.Low; i <= x.High; i++ {
			for k := y.Low; k <= y.High; k++ {
				v := exact(f, i, k)
				a := around(v)
				if s, e := At(f, i, k); s != a || e != api.OK {
					t.Fatalf("At(%v, %d, %d) = %v, %d, want %v", f, i, k, s, e, v)
				}
				want = span(min(want.Low, a.Low), max(want.High, a.High))
				if worst == nil || v.Cmp(worst) > 0 {
					worst, atX, atY = v, i, k
				}
			}
		}
		if s, e := Bound(f, x, y); s != want || e != api.OK {
			t.Fatalf("Bound(%v, %v, %v) = %v, %d, want %v", f, x, y, s, e, want)
		}
		if a, b, e := Worst(f, x, y); a != atX || b != atY || e != api.OK {
			t.Fatalf("Worst(%v, %v, %v) = %d, %d, %d, want %d, %d", f, x, y, a, b, e, atX, atY)
		}
	}
}

func TestBelowEachCorner(t *testing.T) {
	r := rand.New(rand.NewSource(6))
	for range 500 {
		f := anyTable(r)
		x, y := inside(r, f.X), inside(r, f.Y)
		bound, _ := Bound(f, x, y)
		limit := bound.Low - 1 + r.Intn(bound.High-bound.Low+3)
		wantX, wantY, is := 0, 0, true
		for i := x.High; i >= x.Low; i-- {
			for k := y.High; k >= y.Low; k-- {
				isEnd := i == x.Low || i == x.High || slices.Contains(f.X, i)
				isEnd = isEnd && (k == y.Low || k == y.High || slices.Contains(f.Y, k))
				if isEnd && exact(f, i, k).Cmp(big.NewRat(int64(limit), 1)) > 0 {
					wantX, wantY, is = i, k, false
				}
			}
		}
		a, b, got, e := Below(f, x, y, limit)
		if a != wantX || b != wantY || got != is || e != api.OK {
			t.Fatalf("Below(%v, %v, %v, %d) = %d, %d, %v, %d", f, x, y, limit, a, b, got, e)
		}
		if is != (bound.High <= limit) {
			t.Fatalf("Below(%v, %v, %v, %d) = %v, but Bound is %v", f, x, y, limit, is, bound)
		}
	}
}

func TestP1_17GreatestOfEach(t *testing.T) {
	r := rand.New(rand.NewSource(7))
	for range 500 {
		f := anyTable(r)
		y := inside(r, f.Y)
		last, known := 0, false
		for limit := -31; limit <= 31; limit++ {
			want, e := 0, api.ErrNone
			for x := f.X[0]; x <= f.X[len(f.X)-1]; x++ {
				if s, _ := Bound(f, span(x, x), y); s.High <= limit {
					want, e = x, api.OK
				}
			}
			n, got := Greatest(f, y, limit)
			if n != want || got != e {
				t.Fatalf("Greatest(%v, %v, %d) = %d, %d, want %d, %d", f, y, limit, n, got, want, e)
			}
			if known && (got != api.OK || n < last) {
				t.Fatalf("Greatest(%v, %v, %d) = %d, %d is less than with a lesser limit", f, y, limit, n, got)
			}
			if got == api.OK {
				last, known = n, true
			}
		}
		for i, x := range f.X {
			for k, y := range f.Y {
				if s, _ := At(f, x, y); s != span(f.Values[i][k], f.Values[i][k]) {
					t.Fatalf("At(%v, %d, %d) = %v", f, x, y, s)
				}
			}
		}
	}
}

func TestNoOverflow(t *testing.T) {
	f := api.Table{X: []int{most - 10000, most}, Y: []int{-most, -most + 10000}, Values: [][]int{{most, -most}, {-most, most}}}
	if s, e := Bound(f, span(most-10000, most), span(-most, -most+10000)); s != span(-most, most) || e != api.OK {
		t.Errorf("Bound = %v, %d", s, e)
	}
	if s, e := At(f, most-5000, -most+5000); s != span(0, 0) || e != api.OK {
		t.Errorf("At = %v, %d", s, e)
	}
	if n, e := Greatest(f, span(-most+1, -most+1), 0); n != most || e != api.OK {
		t.Errorf("Greatest = %d, %d", n, e)
	}
	if x, y, e := Worst(f, span(most-9999, most-1), span(-most+1, -most+9999)); x != most-9999 || y != -most+1 || e != api.OK {
		t.Errorf("Worst = %d, %d, %d", x, y, e)
	}
}

// flat has the same value everywhere.
func flat(n int) api.Table {
	return api.Table{X: []int{0, 3}, Y: []int{0, 3}, Values: [][]int{{n, n}, {n, n}}}
}

func TestFlatTables(t *testing.T) {
	side := span(1, 2)
	for _, n := range []int{-most, 0, most} {
		if s, e := Bound(flat(n), side, side); s != span(n, n) || e != api.OK {
			t.Errorf("Bound of %d = %v, %d", n, s, e)
		}
		if x, y, e := Worst(flat(n), side, side); x != 1 || y != 1 || e != api.OK {
			t.Errorf("Worst of %d = %d, %d, %d", n, x, y, e)
		}
		if x, e := Greatest(flat(n), side, n); x != 3 || e != api.OK {
			t.Errorf("Greatest of %d = %d, %d", n, x, e)
		}
		if x, e := Greatest(flat(n), side, n-1); x != 0 || e != api.ErrNone {
			t.Errorf("Greatest of %d with less = %d, %d", n, x, e)
		}
	}
}
