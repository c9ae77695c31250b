package sling

import (
	"math"
	"math/rand"
	"slices"
	"testing"

	"swashplate/api"
	"swashplate/samples"
	"swashplate/spans"
)

// example is the hoist H of the document.
func example() api.Hoist { return samples.Hoist() }

func haul(kind, n int) api.Haul { return api.Haul{Kind: kind, N: n} }

func TestP7_4CheckHoist(t *testing.T) {
	if e := CheckHoist(example()); e != api.OK {
		t.Errorf("CheckHoist = %d", e)
	}
	for i, change := range []func(h *api.Hoist){
		func(h *api.Hoist) { h.Charge = 0 }, func(h *api.Hoist) { h.Charge = 100 }, func(h *api.Hoist) { h.Cable = 1 },
		func(h *api.Hoist) { h.Cable, h.Limits.X = 100, []int{-5, 100} },
	} {
		h := example()
		change(&h)
		if e := CheckHoist(h); e != api.OK {
			t.Errorf("right hoist %d: %d", i, e)
		}
	}
	for i, change := range []func(h *api.Hoist){
		func(h *api.Hoist) { h.Cable = 0 }, func(h *api.Hoist) { h.Cable, h.Limits.X = 101, []int{0, 101} }, func(h *api.Hoist) { h.Cable = 51 },
		func(h *api.Hoist) { h.Limits.X = []int{1, 50} }, func(h *api.Hoist) { h.Limits = api.Table{} }, func(h *api.Hoist) { h.Limits.Values[0][0] = 1000001 },
		func(h *api.Hoist) { h.Charge = -1 }, func(h *api.Hoist) { h.Charge = 101 }, func(h *api.Hoist) { h.Cable = math.MinInt },
	} {
		h := example()
		change(&h)
		if e := CheckHoist(h); e != api.ErrHoist {
			t.Errorf("hoist %d: %d", i, e)
		}
	}
}

func TestP7_4CarriesAndDeepest(t *testing.T) {
	for _, c := range []struct {
		length, weight int
		want           bool
	}{{25, 150, true}, {25, 151, false}, {0, 200, true}, {0, 201, false}, {50, 100, true}, {50, 1, true}, {50, 100000, false}} {
		if is, e := Carries(example(), span(0, 20), c.length, c.weight); is != c.want || e != api.OK {
			t.Errorf("Carries(%d, %d) = %v, %d", c.length, c.weight, is, e)
		}
	}
	for _, c := range []struct {
		winds        api.Span
		weight, want int
		e            api.Errno
	}{{span(0, 10), 200, 25, api.OK}, {span(0, 10), 250, 0, api.OK}, {span(0, 10), 251, 0, api.ErrNone}, {span(0, 20), 1, 50, api.OK}, {span(0, 0), 299, 0, api.OK}, {span(0, 0), 298, 1, api.OK}} {
		if n, e := Deepest(example(), c.winds, c.weight); n != c.want || e != c.e {
			t.Errorf("Deepest(%v, %d) = %d, %d", c.winds, c.weight, n, e)
		}
	}
	dip := example()
	dip.Limits = api.Table{X: []int{0, 10, 20, 50}, Y: []int{0, 20}, Values: [][]int{{300, 300}, {100, 100}, {300, 300}, {300, 300}}}
	if n, e := Deepest(dip, span(0, 20), 200); n != 5 || e != api.OK {
		t.Errorf("Deepest before a dip = %d, %d", n, e)
	}
	if is, e := Carries(dip, span(0, 20), 20, 200); !is || e != api.OK {
		t.Errorf("Carries behind a dip = %v, %d", is, e)
	}
}

func TestP7_4Haul(t *testing.T) {
	out, touch := haul(api.Out, 10), haul(api.Touch, 0)
	for i, c := range []struct {
		l    []api.Haul
		want api.Hang
		at   int
		e    api.Errno
	}{
		{nil, api.Hang{}, 0, api.OK},
		{[]api.Haul{out, touch, haul(api.Hook, 180), haul(api.In, 10), haul(api.Unhook, 0)}, api.Hang{Since: 3, Cycles: 1}, 0, api.OK},
		{[]api.Haul{out, haul(api.Hook, 80)}, api.Hang{}, 1, api.ErrHaul},
		{[]api.Haul{out, touch, haul(api.In, 1), haul(api.In, 1), haul(api.Hook, 80)}, api.Hang{}, 4, api.ErrHaul},
		{[]api.Haul{out, touch, haul(api.In, 1), haul(api.Hook, 80)}, api.Hang{Length: 9, Weight: 80, Since: 2}, 0, api.OK},
		{[]api.Haul{out, touch, haul(api.Hook, 170), haul(api.Out, 30)}, api.Hang{}, 3, api.ErrHaul},
		{[]api.Haul{out, touch, haul(api.Hook, 170), haul(api.Out, 5)}, api.Hang{Length: 15, Weight: 170, Since: 2}, 0, api.OK},
		{[]api.Haul{out, touch, haul(api.Hook, 181)}, api.Hang{}, 2, api.ErrHaul},
		{[]api.Haul{haul(api.Out, 50)}, api.Hang{Length: 50, Since: 1}, 0, api.OK},
		{[]api.Haul{haul(api.Out, 51)}, api.Hang{}, 0, api.ErrHaul},
		{[]api.Haul{out, haul(api.Out, math.MaxInt)}, api.Hang{}, 1, api.ErrHaul},
		{[]api.Haul{haul(api.Out, 0)}, api.Hang{}, 0, api.ErrHaul},
		{[]api.Haul{out, haul(api.In, 11)}, api.Hang{}, 1, api.ErrHaul},
		{[]api.Haul{out, haul(api.In, 0)}, api.Hang{}, 1, api.ErrHaul},
		{[]api.Haul{out, haul(api.In, 10)}, api.Hang{Since: 2}, 0, api.OK},
		{[]api.Haul{touch}, api.Hang{}, 0, api.ErrHaul},
		{[]api.Haul{out, haul(api.Touch, 1)}, api.Hang{}, 1, api.ErrHaul},
		{[]api.Haul{out, touch}, api.Hang{Length: 10}, 0, api.OK},
		{[]api.Haul{out, touch, haul(api.Hook, 0)}, api.Hang{}, 2, api.ErrHaul},
		{[]api.Haul{out, touch, haul(api.Hook, 1), haul(api.Hook, 1)}, api.Hang{}, 3, api.ErrHaul},
		{[]api.Haul{out, touch, haul(api.In, 10), haul(api.Hook, 1)}, api.Hang{}, 3, api.ErrHaul},
		{[]api.Haul{out, haul(api.Unhook, 0)}, api.Hang{}, 1, api.ErrHaul},
		{[]api.Haul{out, touch, haul(api.Hook, 1), haul(api.Unhook, 1)}, api.Hang{}, 3, api.ErrHaul},
		{[]api.Haul{out, touch, haul(api.Hook, 1), haul(api.Cut, 0)}, api.Hang{Since: 2, Cut: true}, 0, api.OK},
		{[]api.Haul{haul(api.Cut, 0), out}, api.Hang{}, 1, api.ErrHaul},
		{[]api.Haul{haul(api.Cut, 0), haul(api.Cut, 0)}, api.Hang{}, 1, api.ErrHaul},
		{[]api.Haul{haul(api.Cut, 1)}, api.Hang{}, 0, api.ErrHaul},
		{[]api.Haul{haul(0, 0)}, api.Hang{}, 0, api.ErrHaul},
		{[]api.Haul{out, haul(7, 1)}, api.Hang{}, 1, api.ErrHaul},
		{[]api.Haul{haul(-1, 1)}, api.Hang{}, 0, api.ErrHaul},
		{append([]api.Haul{out}, slices.Repeat([]api.Haul{touch}, 99)...), api.Hang{Length: 10}, 0, api.OK},
		{make([]api.Haul, 101), api.Hang{}, 0, api.ErrMany},
		{[]api.Haul{out, touch, haul(api.Hook, 100), haul(api.Unhook, 0), touch, haul(api.Hook, 90), haul(api.Unhook, 0), out}, api.Hang{Length: 20, Since: 3, Cycles: 2}, 0, api.OK},
	} {
		if hang, at, e := Haul(example(), span(0, 20), c.l); hang != c.want || at != c.at || e != c.e {
			t.Errorf("%d: Haul = %+v, %d, %d", i, hang, at, e)
		}
	}
	dry := example()
	dry.Charge = 0
	if _, at, e := Haul(dry, span(0, 20), []api.Haul{out, touch, haul(api.Hook, 1)}); at != 2 || e != api.ErrHaul {
		t.Errorf("Haul without charge = %d, %d", at, e)
	}
	bad := example()
	bad.Limits.Values = [][]int{{0, 0}, {300, 300}}
	if _, at, e := Haul(bad, span(0, 20), []api.Haul{out, touch, haul(api.Hook, 60), haul(api.In, 10)}); at != 3 || e != api.ErrHaul {
		t.Errorf("Haul of one that carries less inside = %d, %d", at, e)
	}
}

func TestErrorsOfHoists(t *testing.T) {
	many := make([]api.Haul, 101)
	calls := map[string]func(h api.Hoist, winds api.Span) api.Errno{
		"Haul":    func(h api.Hoist, winds api.Span) api.Errno { _, _, e := Haul(h, winds, nil); return e },
		"Carries": func(h api.Hoist, winds api.Span) api.Errno { _, e := Carries(h, winds, 1, 1); return e },
		"Deepest": func(h api.Hoist, winds api.Span) api.Errno { _, e := Deepest(h, winds, 1); return e },
	}
	for name, f := range calls {
		if e := f(api.Hoist{}, span(1, 0)); e != api.ErrHoist {
			t.Errorf("%s: %d", name, e)
		}
		if e := f(example(), span(1, 0)); e != api.ErrSpan {
			t.Errorf("%s: %d", name, e)
		}
		for _, w := range []api.Span{span(-1, 0), span(0, 21), span(30, 40)} {
			if e := f(example(), w); e != api.ErrArg {
				t.Errorf("%s in %v: %d", name, w, e)
			}
		}
	}
	if _, _, e := Haul(example(), span(0, 21), many); e != api.ErrMany {
		t.Errorf("Haul of many in too much wind: %d", e)
	}
	if _, _, e := Haul(example(), span(1, 0), many); e != api.ErrSpan {
		t.Errorf("Haul of many in no wind: %d", e)
	}
	for _, c := range [][2]int{{-1, 1}, {51, 1}, {1, 0}, {1, 100001}, {math.MaxInt, 1}, {1, math.MinInt}} {
		if is, e := Carries(example(), span(0, 20), c[0], c[1]); is || e != api.ErrArg {
			t.Errorf("Carries(%v) = %v, %d", c, is, e)
		}
	}
	for _, w := range []int{0, -1, 100001} {
		if n, e := Deepest(example(), span(0, 20), w); n != 0 || e != api.ErrArg {
			t.Errorf("Deepest(%d) = %d, %d", w, n, e)
		}
	}
}

func anyHoist(r *rand.Rand) api.Hoist {
	h := api.Hoist{Cable: 5 + r.Intn(10), Charge: r.Intn(4), Limits: api.Table{X: []int{-2, 4, 9, 20}, Y: []int{0, 5, 9}}}
	for range 4 {
		h.Limits.Values = append(h.Limits.Values, []int{r.Intn(50), r.Intn(50), r.Intn(50)})
	}
	return h
}

// steps returns steps that are likely to be right.
func steps(r *rand.Rand) []api.Haul {
	l := []api.Haul{haul(api.Out, 1+r.Intn(4)), haul(api.Touch, 0)}
	for range r.Intn(8) {
		kind := 1 + r.Intn(6)
		n := 0
		if kind <= api.In {
			n = 1 + r.Intn(2)
		} else if kind == api.Hook {
			n = 1 + r.Intn(15)
		} else if kind == api.Cut && r.Intn(3) > 0 {
			kind = api.Touch
		}
		l = append(l, haul(kind, n))
	}
	return l
}

func TestP7_9And10RightSteps(t *testing.T) {
	r := rand.New(rand.NewSource(1))
	hooks := 0
	for range 3000 {
		h, winds, l := anyHoist(r), some(r, 0, 9), steps(r)
		_, at, e := Haul(h, winds, l)
		if e == api.ErrHaul {
			l = l[:at]
		}
		cycles, touched := 0, -1000
		for i := range l {
			hang, _, e := Haul(h, winds, l[:i+1])
			if e != api.OK {
				t.Fatalf("a beginning of right steps is not right: %d", e)
			}
			switch l[i].Kind {
			case api.Touch:
				touched = i
			case api.Unhook:
				cycles++
			case api.Hook:
				hooks++
				if i-touched > h.Charge {
					t.Fatalf("%v is hooked to a charged cable at %d", l, i)
				}
			}
			if hang.Length < 0 || hang.Length > h.Cable || hang.Cycles != cycles || touched >= 0 && hang.Since != i-touched || touched < 0 && hang.Since != i+1 {
				t.Fatalf("Haul of %v = %+v", l[:i+1], hang)
			}
			for w := winds.Low; w <= winds.High; w++ {
				if s, _ := spans.At(h.Limits, hang.Length, w); hang.Weight > 0 && s.Low < hang.Weight {
					t.Fatalf("%+v hangs on what carries %v", hang, s)
				}
			}
		}
		if _, _, e := Haul(h, span(winds.Low, winds.Low), l); e != api.OK {
			t.Fatalf("right steps are not right in less winds: %d", e)
		}
	}
	if hooks < 200 {
		t.Errorf("only %d hooks", hooks)
	}
}

func TestP7_11EachLengthAndWind(t *testing.T) {
	r := rand.New(rand.NewSource(2))
	for range 300 {
		h, winds, weight := anyHoist(r), some(r, 0, 9), 1+r.Intn(30)
		deepest := -1
		for length := range h.Cable + 1 {
			want := true
			for w := winds.Low; w <= winds.High; w++ {
				s, _ := spans.At(h.Limits, length, w)
				want = want && s.Low >= weight
			}
			if is, e := Carries(h, winds, length, weight); is != want || e != api.OK {
				t.Fatalf("Carries(%d, %d) = %v, %d", length, weight, is, e)
			}
			if want && deepest == length-1 {
				deepest = length
			}
		}
		n, e := Deepest(h, winds, weight)
		if deepest >= 0 && (n != deepest || e != api.OK) || deepest < 0 && (n != 0 || e != api.ErrNone) {
			t.Fatalf("Deepest(%d) = %d, %d, want %d", weight, n, e, deepest)
		}
	}
}

func TestTheLeastAndTheGreatestSteps(t *testing.T) {
	out, touch := haul(api.Out, 1), haul(api.Touch, 0)
	if hang, at, e := Haul(example(), span(0, 20), []api.Haul{out, touch, haul(api.Hook, 1), haul(api.Unhook, 0)}); hang != (api.Hang{Length: 1, Since: 2, Cycles: 1}) || at != 0 || e != api.OK {
		t.Errorf("Haul of the least = %+v, %d, %d", hang, at, e)
	}
	strong := example()
	strong.Limits.Values = [][]int{{1000000, 1000000}, {1000000, 1000000}}
	if hang, at, e := Haul(strong, span(0, 20), []api.Haul{out, touch, haul(api.Hook, 100000)}); hang.Weight != 100000 || at != 0 || e != api.OK {
		t.Errorf("Haul of the greatest = %+v, %d, %d", hang, at, e)
	}
	if _, at, e := Haul(strong, span(0, 20), []api.Haul{out, touch, haul(api.Hook, 100001)}); at != 2 || e != api.ErrHaul {
		t.Errorf("Haul of more = %d, %d", at, e)
	}
	weak := example()
	weak.Limits.Values = [][]int{{0, 0}, {0, 0}}
	if hang, at, e := Haul(weak, span(0, 20), []api.Haul{haul(api.Out, 9), haul(api.In, 4)}); hang != (api.Hang{Length: 5, Since: 2}) || at != 0 || e != api.OK {
		t.Errorf("Haul of an empty hook on what carries nothing = %+v, %d, %d", hang, at, e)
	}
	if _, at, e := Haul(weak, span(0, 20), []api.Haul{out, touch, haul(api.Hook, 1)}); at != 2 || e != api.ErrHaul {
		t.Errorf("Haul on what carries nothing = %d, %d", at, e)
	}
}
