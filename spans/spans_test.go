package spans

import (
	"math"
	"math/rand"
	"testing"

	"swashplate/api"
)

const most = api.MaxValue

// broken are spans that are not valid.
func broken() []api.Span {
	return []api.Span{span(1, 0), span(-most-1, 0), span(0, most+1), span(math.MinInt, math.MaxInt), span(math.MaxInt, math.MinInt)}
}

func anySpan(r *rand.Rand, size int) api.Span {
	a, b := r.Intn(2*size+1)-size, r.Intn(2*size+1)-size
	return span(min(a, b), max(a, b))
}

func TestP1_2MeetAndHull(t *testing.T) {
	for _, c := range []struct {
		a, b, meet, hull api.Span
		e                api.Errno
	}{
		{span(1, 5), span(4, 9), span(4, 5), span(1, 9), api.OK},
		{span(1, 5), span(5, 9), span(5, 5), span(1, 9), api.OK},
		{span(1, 5), span(6, 9), api.Span{}, span(1, 9), api.ErrNone},
		{span(-9, 9), span(2, 3), span(2, 3), span(-9, 9), api.OK},
		{span(-most, most), span(most, most), span(most, most), span(-most, most), api.OK},
	} {
		for _, p := range [][2]api.Span{{c.a, c.b}, {c.b, c.a}} {
			if s, e := Meet(p[0], p[1]); s != c.meet || e != c.e {
				t.Errorf("Meet(%v) = %v, %d", p, s, e)
			}
			if s, e := Hull(p[0], p[1]); s != c.hull || e != api.OK {
				t.Errorf("Hull(%v) = %v, %d", p, s, e)
			}
		}
	}
}

func TestP1_3AddAndTimes(t *testing.T) {
	for _, c := range []struct {
		a, b, sum, product api.Span
	}{
		{span(-2, 3), span(4, 5), span(2, 8), span(-10, 15)},
		{span(-2, 3), span(-4, 5), span(-6, 8), span(-12, 15)},
		{span(-3, -2), span(-5, -4), span(-8, -6), span(8, 15)},
		{span(0, 0), span(-most, most), span(-most, most), span(0, 0)},
		{span(1000, 1000), span(1000, 1000), span(2000, 2000), span(most, most)},
	} {
		if s, e := Add(c.a, c.b); s != c.sum || e != api.OK {
			t.Errorf("Add(%v, %v) = %v, %d", c.a, c.b, s, e)
		}
		if s, e := Times(c.a, c.b); s != c.product || e != api.OK {
			t.Errorf("Times(%v, %v) = %v, %d", c.a, c.b, s, e)
		}
	}
	for _, c := range [][2]api.Span{{span(0, most), span(1, 1)}, {span(-most, 0), span(-1, 0)}} {
		if s, e := Add(c[0], c[1]); s != (api.Span{}) || e != api.ErrMany {
			t.Errorf("Add(%v) = %v, %d", c, s, e)
		}
	}
	for _, c := range [][2]api.Span{{span(0, 1001), span(0, 1000)}, {span(-most, 0), span(0, 2)}, {span(-most, most), span(-most, most)}} {
		if s, e := Times(c[0], c[1]); s != (api.Span{}) || e != api.ErrMany {
			t.Errorf("Times(%v) = %v, %d", c, s, e)
		}
	}
}

func TestP1_4Part(t *testing.T) {
	for _, c := range []struct {
		a        api.Span
		num, den int
		want     api.Span
		e        api.Errno
	}{
		{span(-3, 7), 1, 2, span(-2, 4), api.OK},
		{span(-3, 7), 0, 5, span(0, 0), api.OK},
		{span(-4, 8), 3, 4, span(-3, 6), api.OK},
		{span(1, 1), 1, 3, span(0, 1), api.OK},
		{span(-1, -1), 1, 3, span(-1, 0), api.OK},
		{span(most, most), 1000, 1000, span(most, most), api.OK},
		{span(0, most), 2, 1, api.Span{}, api.ErrMany},
		{span(-most, 0), 1000, 999, api.Span{}, api.ErrMany},
		{span(0, 1), -1, 1, api.Span{}, api.ErrArg},
		{span(0, 1), 1001, 1, api.Span{}, api.ErrArg},
		{span(0, 1), 1, 0, api.Span{}, api.ErrArg},
		{span(0, 1), 1, 1001, api.Span{}, api.ErrArg},
		{span(0, 1), math.MaxInt, math.MinInt, api.Span{}, api.ErrArg},
		{span(1, 0), 1, 0, api.Span{}, api.ErrSpan},
	} {
		if s, e := Part(c.a, c.num, c.den); s != c.want || e != c.e {
			t.Errorf("Part(%v, %d, %d) = %v, %d", c.a, c.num, c.den, s, e)
		}
	}
}

func TestSpansThatAreNotValid(t *testing.T) {
	for _, b := range broken() {
		for _, f := range []func(a, b api.Span) (api.Span, api.Errno){Meet, Hull, Add, Times} {
			for _, p := range [][2]api.Span{{b, span(0, 1)}, {span(0, 1), b}} {
				if s, e := f(p[0], p[1]); s != (api.Span{}) || e != api.ErrSpan {
					t.Errorf("%v: %v, %d", p, s, e)
				}
			}
		}
		if s, e := Part(b, 1, 1); s != (api.Span{}) || e != api.ErrSpan {
			t.Errorf("Part of %v: %v, %d", b, s, e)
		}
	}
}

func TestP1_13EachNumber(t *testing.T) {
	r := rand.New(rand.NewSource(1))
	for range 300 {
		a, b := anySpan(r, 6), anySpan(r, 6)
		num, den := r.Intn(9), r.Intn(8)+1
		sum, product, part := span(most, -most), span(most, -most), span(most, -most)
		for x := a.Low; x <= a.High; x++ {
			for y := b.Low; y <= b.High; y++ {
				sum = span(min(sum.Low, x+y), max(sum.High, x+y))
				product = span(min(product.Low, x*y), max(product.High, x*y))
			}
			f := float64(x*num) / float64(den)
			part = span(min(part.Low, int(math.Floor(f))), max(part.High, int(math.Ceil(f))))
		}
		if s, e := Add(a, b); s != sum || e != api.OK {
			t.Errorf("Add(%v, %v) = %v, %d", a, b, s, e)
		}
		if s, e := Times(a, b); s != product || e != api.OK {
			t.Errorf("Times(%v, %v) = %v, %d", a, b, s, e)
		}
		if s, e := Part(a, num, den); s != part || e != api.OK {
			t.Errorf("Part(%v, %d, %d) = %v, %d", a, num, den, s, e)
		}
	}
}
