package spans

import (
	"math/rand"
	"reflect"
	"slices"
	"testing"

	"swashplate/api"
)

func has(b api.Box, point []int) bool {
	for d, s := range b {
		if point[d] < s.Low || point[d] > s.High {
			return false
		}
	}
	return true
}

func among(l []api.Box, point []int) int {
	n := 0
	for _, b := range l {
		if has(b, point) {
			n++
		}
	}
	return n
}

// all returns the points of a box in order.
func all(b api.Box) [][]int {
	l := [][]int{nil}
	for _, s := range b {
		var next [][]int
		for _, p := range l {
			for n := s.Low; n <= s.High; n++ {
				next = append(next, append(slices.Clone(p), n))
			}
		}
		l = next
	}
	return l
}

func anyBox(r *rand.Rand, dims, size int) api.Box {
	var b api.Box
	for range dims {
		b = append(b, anySpan(r, size))
	}
	return b
}

func anyBoxes(r *rand.Rand, dims, size, n int) []api.Box {
	var l []api.Box
	for range n {
		l = append(l, anyBox(r, dims, size))
	}
	return l
}

func TestP1_1Check(t *testing.T) {
	good := span(0, 0)
	for _, b := range []api.Box{{good}, {good, span(-most, most)}, {good, good, good}} {
		if e := Check(b); e != api.OK {
			t.Errorf("Check(%v) = %d", b, e)
		}
	}
	for _, b := range []api.Box{nil, {}, {good, good, good, good}} {
		if e := Check(b); e != api.ErrSpan {
			t.Errorf("Check(%v) = %d", b, e)
		}
	}
	for _, s := range broken() {
		for d := range 3 {
			b := api.Box{good, good, good}
			b[d] = s
			if e := Check(b); e != api.ErrSpan {
				t.Errorf("Check(%v) = %d", b, e)
			}
		}
	}
}

func TestP1_5Minus(t *testing.T) {
	for _, c := range []struct {
		a, b api.Box
		want []api.Box
	}{
		{api.Box{span(0, 9), span(0, 9)}, api.Box{span(3, 5), span(8, 12)}, []api.Box{{span(0, 2), span(0, 9)}, {span(6, 9), span(0, 9)}, {span(3, 5), span(0, 7)}}},
		{api.Box{span(0, 3)}, api.Box{span(5, 6)}, []api.Box{{span(0, 3)}}},
		{api.Box{span(7, 9)}, api.Box{span(5, 6)}, []api.Box{{span(7, 9)}}},
		{api.Box{span(0, 3)}, api.Box{span(0, 3)}, nil},
		{api.Box{span(0, 4), span(0, 4)}, api.Box{span(1, 2), span(7, 9)}, []api.Box{{span(0, 0), span(0, 4)}, {span(3, 4), span(0, 4)}, {span(1, 2), span(0, 4)}}},
		{api.Box{span(0, 2), span(0, 2), span(0, 2)}, api.Box{span(1, 1), span(1, 1), span(1, 1)}, []api.Box{
			{span(0, 0), span(0, 2), span(0, 2)}, {span(2, 2), span(0, 2), span(0, 2)},
			{span(1, 1), span(0, 0), span(0, 2)}, {span(1, 1), span(2, 2), span(0, 2)},
			{span(1, 1), span(1, 1), span(0, 0)}, {span(1, 1), span(1, 1), span(2, 2)}}},
	} {
		if l, e := Minus(c.a, c.b); e != api.OK || len(l)+len(c.want) > 0 && !reflect.DeepEqual(l, c.want) {
			t.Errorf("Minus(%v, %v) = %v, %d", c.a, c.b, l, e)
		}
	}
	if l, e := Minus(api.Box{span(0, 1)}, api.Box{span(0, 1), span(0, 1)}); l != nil || e != api.ErrArg {
		t.Errorf("Minus of another size = %v, %d", l, e)
	}
	for _, p := range [][2]api.Box{{nil, {span(0, 1)}}, {{span(0, 1)}, {span(1, 0)}}, {{span(0, 1)}, {span(1, 0), span(0, 0)}}} {
		if l, e := Minus(p[0], p[1]); l != nil || e != api.ErrSpan {
			t.Errorf("Minus(%v) = %v, %d", p, l, e)
		}
	}
}

func TestMinusSharesNothing(t *testing.T) {
	a, b := api.Box{span(0, 9), span(0, 9)}, api.Box{span(3, 5), span(8, 12)}
	l, _ := Minus(a, b)
	l[0][0], l[1][1] = span(77, 77), span(77, 77)
	if a[0] != span(0, 9) || a[1] != span(0, 9) || l[1][0] != span(6, 9) || l[2][0] != span(3, 5) {
		t.Error("the parts share memory")
	}
}

func TestP1_6Covers(t *testing.T) {
	square := api.Box{span(0, 9), span(0, 9)}
	for _, c := range []struct {
		a    api.Box
		l    []api.Box
		want []int
	}{
		{api.Box{span(0, 9)}, []api.Box{{span(0, 4)}, {span(6, 9)}}, []int{5}},
		{api.Box{span(0, 9)}, nil, []int{0}},
		{api.Box{span(0, 9)}, []api.Box{{span(-5, 50)}}, nil},
		{square, []api.Box{{span(0, 9), span(4, 9)}, {span(0, 4), span(0, 5)}, {span(6, 9), span(0, 3)}}, []int{5, 0}},
		{square, []api.Box{{span(0, 9), span(4, 20)}, {span(-4, 15), span(0, 3)}}, nil},
	} {
		if p, is, e := Covers(c.a, c.l); !slices.Equal(p, c.want) || is != (c.want == nil) || e != api.OK {
			t.Errorf("Covers(%v, %v) = %v, %v, %d", c.a, c.l, p, is, e)
		}
	}
	one := api.Box{span(0, 1)}
	two := api.Box{span(0, 1), span(0, 1)}
	for _, c := range []struct {
		a api.Box
		l []api.Box
		e api.Errno
	}{
		{one, slices.Repeat([]api.Box{one}, 20), api.OK},
		{nil, slices.Repeat([]api.Box{one}, 21), api.ErrMany},
		{nil, []api.Box{two}, api.ErrSpan},
		{two, []api.Box{one, nil}, api.ErrSpan},
		{two, []api.Box{two, one}, api.ErrArg},
	} {
		if p, is, e := Covers(c.a, c.l); e != c.e || e != api.OK && (p != nil || is) {
			t.Errorf("Covers(%v, %v) = %v, %v, %d", c.a, c.l, p, is, e)
		}
	}
}

func TestP1_7Count(t *testing.T) {
	wide := span(-most, most)
	for _, c := range []struct {
		l    []api.Box
		want int
		e    api.Errno
	}{
		{nil, 0, api.OK},
		{[]api.Box{{span(0, 4)}, {span(3, 9)}}, 10, api.OK},
		{[]api.Box{{span(0, 9), span(0, 9)}, {span(3, 5), span(8, 12)}}, 109, api.OK},
		{[]api.Box{{wide, wide}}, 2000001 * 2000001, api.OK},
		{[]api.Box{{wide, wide, wide}, {wide, wide, wide}}, api.MaxCount, api.OK},
		{[]api.Box{{span(1, most), span(1, most), span(1, most)}}, api.MaxCount, api.OK},
		{[]api.Box{{span(1, most), span(1, most), span(1, most-1)}}, api.MaxCount - most*most, api.OK},
		{slices.Repeat([]api.Box{{span(0, 1)}}, 21), 0, api.ErrMany},
		{[]api.Box{{span(0, 1)}, {span(0, 1), span(0, 1)}, nil}, 0, api.ErrSpan},
		{[]api.Box{{span(0, 1)}, {span(0, 1), span(0, 1)}}, 0, api.ErrArg},
	} {
		if n, e := Count(c.l); n != c.want || e != c.e {
			t.Errorf("Count(%v) = %d, %d", c.l, n, e)
		}
	}
}

func TestP1_14NothingIsLost(t *testing.T) {
	r := rand.New(rand.NewSource(2))
	for i := range 400 {
		dims := i%3 + 1
		a, b := anyBox(r, dims, 4), anyBox(r, dims, 4)
		l, e := Minus(a, b)
		if e != api.OK {
			t.Fatalf("Minus(%v, %v): %d", a, b, e)
		}
		n := 0
		for _, p := range all(a) {
			if in := among(l, p); in > 1 || (in == 1) == has(b, p) {
				t.Fatalf("Minus(%v, %v) = %v: %v is in %d", a, b, l, p, in)
			}
			n += among(l, p)
		}
		for _, part := range l {
			n -= len(all(part))
		}
		if n != 0 {
			t.Fatalf("Minus(%v, %v) = %v has points that are not of a", a, b, l)
		}
	}
}

func TestCoversEachPoint(t *testing.T) {
	r := rand.New(rand.NewSource(3))
	covered := 0
	for i := range 600 {
		dims := i%3 + 1
		a, l := anyBox(r, dims, 3), anyBoxes(r, dims, 4, r.Intn(12))
		var want []int
		for _, p := range all(a) {
			if among(l, p) == 0 {
				want = p
				break
			}
		}
		p, is, e := Covers(a, l)
		if e != api.OK || is != (want == nil) || !slices.Equal(p, want) {
			t.Fatalf("Covers(%v, %v) = %v, %v, %d, want %v", a, l, p, is, e, want)
		}
		if is {
			covered++
			if _, is, e := Covers(a, append(l, anyBox(r, dims, 4))); !is || e != api.OK {
				t.Fatalf("Covers(%v, ..) with one box more: %v, %d", a, is, e)
			}
		}
	}
	if covered < 50 {
		t.Errorf("only %d boxes were covered", covered)
	}
}

func TestP1_15CountOfOneMore(t *testing.T) {
	r := rand.New(rand.NewSource(4))
	for i := range 300 {
		dims := i%3 + 1
		l, b := anyBoxes(r, dims, 4, r.Intn(8)), anyBox(r, dims, 4)
		n, _ := Count(l)
		for _, p := range all(b) {
			if among(l, p) == 0 {
				n++
			}
		}
		if m, e := Count(append(l, b)); m != n || e != api.OK {
			t.Fatalf("Count(%v and %v) = %d, %d, want %d", l, b, m, e, n)
		}
	}
}

// Twenty great boxes that cross each other everywhere are still counted at once.
func TestManyBoxes(t *testing.T) {
	var l []api.Box
	for i := range 20 {
		b := api.Box{span(-most, most), span(-most, most), span(-most, most)}
		b[i%3] = span(i*1000, i*1000+1)
		l = append(l, b)
	}
	size := 2*most + 1
	if n, e := Count(l); n != size*size*size-(size-14)*(size-14)*(size-12) || e != api.OK {
		t.Errorf("Count = %d, %d", n, e)
	}
	if p, is, e := Covers(l[0], l[1:]); is || !slices.Equal(p, []int{0, -most, -most}) || e != api.OK {
		t.Errorf("Covers = %v, %v, %d", p, is, e)
	}
}
