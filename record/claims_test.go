package record

import (
	"math"
	"math/rand"
	"slices"
	"testing"

	"swashplate/api"
	"swashplate/samples"
)

// safety is the case of the document.
func safety() api.Case { return samples.Case() }

func TestP12_9HoldsAndUntil(t *testing.T) {
	for _, c := range []struct {
		claim, tick int
		want        bool
	}{{0, 4, false}, {0, 7, true}, {2, 7, true}, {1, 4, false}, {1, 25, true}, {2, 25, false}, {1, 31, false}, {0, 10, true}, {0, 11, false}} {
		if is, e := Holds(safety(), c.claim, c.tick); is != c.want || e != api.OK {
			t.Errorf("Holds of %d in %d = %v, %d", c.claim, c.tick, is, e)
		}
	}
	for _, c := range []struct {
		claim, tick, want int
		e                 api.Errno
	}{{1, 5, 30, api.OK}, {2, 5, 10, api.OK}, {0, 4, 0, api.ErrNone}, {0, 10, 10, api.OK}, {1, 2000, 0, api.ErrNone}} {
		if n, e := Until(safety(), c.claim, c.tick); n != c.want || e != c.e {
			t.Errorf("Until of %d from %d = %d, %d", c.claim, c.tick, n, e)
		}
	}
	empty := api.Case{Claims: []api.Claim{{}, {Any: true}}}
	if n, e := Until(empty, 0, 7); n != 2000 || e != api.OK {
		t.Errorf("Until of a claim that needs nothing = %d, %d", n, e)
	}
	if n, e := Until(empty, 0, 2000); n != 2000 || e != api.OK {
		t.Errorf("Until in the last tick = %d, %d", n, e)
	}
	if is, e := Holds(empty, 1, 7); is || e != api.OK {
		t.Errorf("Holds of any of nothing = %v, %d", is, e)
	}
	if n, e := Until(api.Case{Claims: []api.Claim{{Proofs: []int{0, 1}, Any: true}}, Proofs: []api.Span{span(0, 3), span(5, 9)}}, 0, 0); n != 3 || e != api.OK {
		t.Errorf("Until before a gap = %d, %d", n, e)
	}
}

func TestP12_10WeakAndRenew(t *testing.T) {
	for _, c := range []struct {
		claim, tick int
		want        []int
		e           api.Errno
	}{{2, 7, []int{0, 1}, api.OK}, {2, 9, []int{0, 1}, api.OK}, {1, 9, nil, api.OK}, {1, 25, []int{2}, api.OK}, {0, 4, nil, api.ErrNone}} {
		if l, e := Weak(safety(), c.claim, c.tick); !slices.Equal(l, c.want) || e != c.e {
			t.Errorf("Weak of %d in %d = %v, %d", c.claim, c.tick, l, e)
		}
	}
	for _, c := range []struct {
		claim, tick int
		want        []int
	}{{2, 15, []int{0}}, {1, 2, []int{1}}, {0, 7, nil}, {0, 40, []int{0, 1}}, {1, 40, []int{2}}, {2, 40, []int{0, 1}}} {
		if l, e := Renew(safety(), c.claim, c.tick); !slices.Equal(l, c.want) || e != api.OK {
			t.Errorf("Renew of %d in %d = %v, %d", c.claim, c.tick, l, e)
		}
	}
	if l, e := Renew(api.Case{Claims: []api.Claim{{Any: true}, {Needs: []int{0}}}}, 1, 0); l != nil || e != api.ErrNone {
		t.Errorf("Renew of what cannot hold = %v, %d", l, e)
	}
	all := api.Case{Claims: []api.Claim{{}}, Proofs: slices.Repeat([]api.Span{span(5, 5)}, 12)}
	for p := range 12 {
		all.Claims[0].Proofs = append(all.Claims[0].Proofs, p)
	}
	if l, e := Renew(all, 0, 0); len(l) != 12 || e != api.OK {
		t.Errorf("Renew of all = %v, %d", l, e)
	}
}

func TestErrorsOfCases(t *testing.T) {
	great := api.Case{Claims: make([]api.Claim, 16), Proofs: slices.Repeat([]api.Span{span(0, 2000)}, 12)}
	great.Claims[15] = api.Claim{Needs: []int{0, 7, 14}, Proofs: []int{0, 11}}
	for name, f := range map[string]func(c api.Case, claim, tick int) api.Errno{
		"Holds": func(c api.Case, claim, tick int) api.Errno { _, e := Holds(c, claim, tick); return e },
		"Until": func(c api.Case, claim, tick int) api.Errno { _, e := Until(c, claim, tick); return e },
		"Weak":  func(c api.Case, claim, tick int) api.Errno { _, e := Weak(c, claim, tick); return e },
		"Renew": func(c api.Case, claim, tick int) api.Errno { _, e := Renew(c, claim, tick); return e },
	} {
		if e := f(great, 15, 2000); e != api.OK {
			t.Errorf("%s: %d", name, e)
		}
		for i, change := range []func(c *api.Case){
			func(c *api.Case) { c.Claims = make([]api.Claim, 17) }, func(c *api.Case) { c.Proofs = append(slices.Repeat(c.Proofs, 4), c.Proofs[0]); c.Claims = nil },
			func(c *api.Case) { c.Claims[1].Needs = []int{1} }, func(c *api.Case) { c.Claims[0].Needs = []int{0} }, func(c *api.Case) { c.Claims[2].Needs = []int{1, 0} }, func(c *api.Case) { c.Claims[2].Needs = []int{1, 1} }, func(c *api.Case) { c.Claims[2].Needs = []int{-1} },
			func(c *api.Case) { c.Claims[0].Proofs = []int{3} }, func(c *api.Case) { c.Claims[0].Proofs = []int{-1} }, func(c *api.Case) { c.Claims[0].Proofs = []int{1, 0} }, func(c *api.Case) { c.Claims[0].Proofs = []int{1, 1} },
			func(c *api.Case) { c.Proofs[1] = span(5, 4) }, func(c *api.Case) { c.Proofs[1] = span(-1, 4) }, func(c *api.Case) { c.Proofs[1] = span(0, 2001) },
		} {
			c := safety()
			change(&c)
			if e := f(c, -1, -1); e != api.ErrCase {
				t.Errorf("%s of the case %d: %d", name, i, e)
			}
		}
		for _, p := range [][2]int{{-1, 0}, {3, 0}, {0, -1}, {0, 2001}, {math.MaxInt, 0}, {0, math.MinInt}} {
			if e := f(safety(), p[0], p[1]); e != api.ErrArg {
				t.Errorf("%s of %v: %d", name, p, e)
			}
		}
	}
}

func randomCase(r *rand.Rand) api.Case {
	var c api.Case
	for range r.Intn(6) {
		low := r.Intn(12)
		c.Proofs = append(c.Proofs, span(low, low+r.Intn(8)))
	}
	for i := range 1 + r.Intn(5) {
		x := api.Claim{Any: r.Intn(2) == 0}
		for n := range i {
			if r.Intn(3) == 0 {
				x.Needs = append(x.Needs, n)
			}
		}
		for p := range c.Proofs {
			if r.Intn(3) == 0 {
				x.Proofs = append(x.Proofs, p)
			}
		}
		c.Claims = append(c.Claims, x)
	}
	return c
}

// stands follows the text of the document.
func stands(c api.Case, claim int, counts func(p int) bool) bool {
	x := c.Claims[claim]
	all, any := true, false
	for _, n := range x.Needs {
		is := stands(c, n, counts)
		all, any = all && is, any || is
	}
	for _, p := range x.Proofs {
		all, any = all && counts(p), any || counts(p)
	}
	if x.Any {
		return any
	}
	return all
}

func TestP12_14EveryClaimHasItsProofs(t *testing.T) {
	r := rand.New(rand.NewSource(1))
	renewed := 0
	for range 500 {
		c := randomCase(r)
		claim, tick := r.Intn(len(c.Claims)), r.Intn(20)
		counts := func(p int) bool { return tick >= c.Proofs[p].Low && tick <= c.Proofs[p].High }
		want := stands(c, claim, counts)
		if is, e := Holds(c, claim, tick); is != want || e != api.OK {
			t.Fatalf("Holds = %v, %d, want %v", is, e, want)
		}
		var weak []int
		for p := range c.Proofs {
			if !stands(c, claim, func(q int) bool { return q != p && counts(q) }) {
				weak = append(weak, p)
			}
		}
		if l, e := Weak(c, claim, tick); want && (!slices.Equal(l, weak) || e != api.OK) || !want && (l != nil || e != api.ErrNone) {
			t.Fatalf("Weak = %v, %d, want %v", l, e, weak)
		}
		// All sets of proofs that do not count, the fewest and lowest first.
		var sets [][]int
		for set := range 1 << len(c.Proofs) {
			var l []int
			for p := range c.Proofs {
				if set>>p&1 == 1 {
					l = append(l, p)
				}
			}
			if !slices.ContainsFunc(l, counts) && stands(c, claim, func(p int) bool { return counts(p) || slices.Contains(l, p) }) {
				sets = append(sets, l)
			}
		}
		l, e := Renew(c, claim, tick)
		if len(sets) == 0 {
			if l != nil || e != api.ErrNone {
				t.Fatalf("Renew = %v, %d", l, e)
			}
		} else {
			best := slices.MinFunc(sets, func(a, b []int) int {
				if len(a) != len(b) {
					return len(a) - len(b)
				}
				return slices.Compare(a, b)
			})
			if !slices.Equal(l, best) || e != api.OK {
				t.Fatalf("Renew = %v, %d, want %v", l, e, best)
			}
			if len(best) > 1 {
				renewed++
			}
		}
		last := tick
		for last <= 2000 && stands(c, claim, func(p int) bool { return last >= c.Proofs[p].Low && last <= c.Proofs[p].High }) {
			last++
		}
		if n, e := Until(c, claim, tick); want && (n != last-1 || e != api.OK) || !want && (n != 0 || e != api.ErrNone) {
			t.Fatalf("Until = %d, %d, want %d", n, e, last-1)
		}
		if len(c.Proofs) > 0 {
			more := c
			more.Proofs = slices.Clone(c.Proofs)
			more.Proofs[0] = span(0, 2000)
			if is, _ := Holds(more, claim, tick); want && !is {
				t.Fatal("with more ticks for a proof a claim does not hold")
			}
		}
	}
	if renewed < 20 {
		t.Errorf("only %d need several proofs", renewed)
	}
}
