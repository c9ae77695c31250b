package crew

import (
	"math"
	"math/rand"
	"slices"
	"testing"

	"swashplate/api"
	"swashplate/samples"
)

func example() api.Roster { return samples.Roster() }

func duty(person, from, to int) api.Duty { return api.Duty{Person: person, From: from, To: to} }

func duties(more ...api.Duty) []api.Duty { return append(samples.Duties(), more...) }

func call(from, to, craft int, water bool) api.Call {
	return api.Call{From: from, To: to, Craft: craft, Water: water}
}

func TestP10_1Check(t *testing.T) {
	great := api.Roster{People: slices.Repeat([]api.Person{{Ratings: 255, Rank: 3, Dive: 2000}}, 12), Longest: 2000, Rest: 2000, Window: 2000, Total: 2000, Recent: 2000}
	for i, r := range []api.Roster{example(), great, {Longest: 1, Window: 1, Total: 1, Recent: 1}} {
		if at, e := Check(r, nil); at != 0 || e != api.OK {
			t.Errorf("%d: Check = %d, %d", i, at, e)
		}
	}
	for i, change := range []func(r *api.Roster){
		func(r *api.Roster) { r.People = slices.Repeat(r.People, 5) },
		func(r *api.Roster) { r.People[1].Ratings = -1 }, func(r *api.Roster) { r.People[1].Ratings = 256 }, func(r *api.Roster) { r.People[1].Rank = -1 }, func(r *api.Roster) { r.People[1].Rank = 4 },
		func(r *api.Roster) { r.People[2].Dive = -1 }, func(r *api.Roster) { r.People[2].Dive = 2001 },
		func(r *api.Roster) { r.Longest = 0 }, func(r *api.Roster) { r.Longest = 2001 }, func(r *api.Roster) { r.Rest = -1 }, func(r *api.Roster) { r.Rest = 2001 },
		func(r *api.Roster) { r.Window = 0 }, func(r *api.Roster) { r.Window = 2001 }, func(r *api.Roster) { r.Recent = 0 }, func(r *api.Roster) { r.Recent = 2001 },
		func(r *api.Roster) { r.Total = 0 }, func(r *api.Roster) { r.Total = 25 }, func(r *api.Roster) { r.Window = math.MinInt },
	} {
		r := example()
		change(&r)
		if at, e := Check(r, make([]api.Duty, 61)); at != 0 || e != api.ErrRoster {
			t.Errorf("%d: Check = %d, %d", i, at, e)
		}
	}
	if at, e := Check(example(), []api.Duty{duty(0, 5, 8), duty(1, 4, 8)}); at != 1 || e != api.ErrDuty {
		t.Errorf("Check of two duties that are not in order = %d, %d", at, e)
	}
	crowd := example()
	crowd.People = make([]api.Person, 13)
	if at, e := Check(crowd, nil); at != 0 || e != api.ErrRoster {
		t.Errorf("Check of 13 people = %d, %d", at, e)
	}
	for i, c := range []struct {
		more []api.Duty
		at   int
		e    api.Errno
	}{
		{nil, 0, api.OK}, {[]api.Duty{duty(0, 15, 20)}, 2, api.ErrDuty}, {[]api.Duty{duty(0, 16, 20)}, 0, api.OK}, {[]api.Duty{duty(0, 16, 22)}, 0, api.OK}, {[]api.Duty{duty(0, 16, 23)}, 2, api.ErrDuty},
		{[]api.Duty{duty(2, 5, 15)}, 0, api.OK}, {[]api.Duty{duty(2, 5, 16)}, 2, api.ErrDuty},
		{[]api.Duty{duty(2, 1, 2)}, 2, api.ErrDuty}, {[]api.Duty{duty(2, 2, 3)}, 0, api.OK},
		{[]api.Duty{duty(3, 5, 6)}, 2, api.ErrDuty}, {[]api.Duty{duty(-1, 5, 6)}, 2, api.ErrDuty}, {[]api.Duty{duty(2, 5, 5)}, 2, api.ErrDuty}, {[]api.Duty{duty(2, 1999, 2001)}, 2, api.ErrDuty}, {[]api.Duty{duty(2, -1, 5)}, 2, api.ErrDuty},
		{[]api.Duty{duty(2, 40, 45)}, 0, api.OK}, {[]api.Duty{duty(2, 41, 45)}, 2, api.ErrDuty}, {[]api.Duty{duty(0, 48, 50)}, 0, api.OK}, {[]api.Duty{duty(0, 49, 50)}, 2, api.ErrDuty},
		{[]api.Duty{duty(0, 16, 20), duty(0, 28, 30), duty(0, 37, 38)}, 4, api.ErrDuty},
		{make([]api.Duty, 59), 0, api.ErrMany},
	} {
		if at, e := Check(example(), duties(c.more...)); at != c.at || e != c.e {
			t.Errorf("%d: Check = %d, %d", i, at, e)
		}
	}
}

func TestP10_2Why(t *testing.T) {
	for _, c := range []struct {
		person int
		c      api.Call
		want   []int
	}{
		{0, call(16, 20, 0, false), nil}, {0, call(16, 24, 0, false), []int{5}}, {1, call(60, 70, 1, true), []int{1, 2, 6}},
		{0, call(15, 20, 0, false), []int{3}}, {0, call(16, 27, 1, false), []int{4, 5}}, {0, call(4, 12, 0, true), []int{3}}, {2, call(0, 10, 0, true), []int{1}}, {2, call(95, 101, 1, true), []int{2, 6}},
		{2, call(95, 100, 1, true), []int{6}}, {2, call(90, 101, 0, true), []int{1, 2, 4, 6}}, {0, call(0, 24, 7, true), []int{1, 3, 4, 5}}, {1, call(50, 60, 0, false), nil}, {1, call(51, 60, 0, false), []int{6}},
		{1, call(0, 1, 0, false), []int{3}},
	} {
		if l, e := Why(example(), duties(), c.person, c.c); !slices.Equal(l, c.want) || e != api.OK {
			t.Errorf("Why of %d for %v = %v, %d, want %v", c.person, c.c, l, e, c.want)
		}
	}
	for _, person := range []int{-1, 3, math.MaxInt} {
		if l, e := Why(example(), duties(), person, call(0, 1, 0, false)); l != nil || e != api.ErrArg {
			t.Errorf("Why of %d = %v, %d", person, l, e)
		}
	}
	for _, c := range []api.Call{call(5, 5, 0, false), call(-1, 5, 0, false), call(0, 2001, 0, false), call(0, 5, -1, false), call(0, 5, 8, false), call(math.MaxInt, math.MinInt, math.MaxInt, true)} {
		if l, e := Why(example(), duties(), 0, c); l != nil || e != api.ErrArg {
			t.Errorf("Why for %v = %v, %d", c, l, e)
		}
		if l, e := Crews(example(), duties(), c); l != nil || e != api.ErrArg {
			t.Errorf("Crews for %v = %v, %d", c, l, e)
		}
	}
}

func TestP10_3Crews(t *testing.T) {
	if l, e := Crews(example(), duties(), call(18, 22, 0, false)); !slices.Equal(l, [][2]int{{0, 1}}) || e != api.OK {
		t.Errorf("Crews = %v, %d", l, e)
	}
	if l, e := Crews(example(), duties(), call(18, 22, 1, false)); !slices.Equal(l, [][2]int{{0, 2}, {2, 0}}) || e != api.OK {
		t.Errorf("Crews of two who command = %v, %d", l, e)
	}
	if l, e := Crews(example(), duties(), call(17, 22, 0, false)); l != nil || e != api.OK {
		t.Errorf("Crews without a mate = %v, %d", l, e)
	}
	r := example()
	r.People = []api.Person{{Ratings: 1, Rank: 1}, {Ratings: 1, Rank: 0}, {Ratings: 1, Rank: 2}, {Ratings: 1, Rank: 3}}
	if l, e := Crews(r, nil, call(0, 1, 0, false)); !slices.Equal(l, [][2]int{{2, 0}, {2, 3}, {3, 0}, {3, 2}}) || e != api.OK {
		t.Errorf("Crews by rank = %v, %d", l, e)
	}
}

func TestP10_4And5WorkedAndUntil(t *testing.T) {
	for _, c := range []struct {
		person, from, to, want int
	}{{0, 4, 30, 4}, {0, 0, 2000, 8}, {0, 8, 30, 0}, {1, 0, 3, 1}, {2, 0, 100, 0}, {0, 7, 8, 1}} {
		if n, e := Worked(example(), duties(), c.person, c.from, c.to); n != c.want || e != api.OK {
			t.Errorf("Worked of %d from %d to %d = %d, %d", c.person, c.from, c.to, n, e)
		}
	}
	for _, c := range []struct {
		person, from, want int
		e                  api.Errno
	}{{0, 16, 22, api.OK}, {0, 10, 0, api.ErrNone}, {2, 0, 10, api.OK}, {2, 40, 50, api.OK}, {2, 41, 0, api.ErrNone}, {2, 2000, 0, api.ErrNone}, {0, 0, 0, api.ErrNone}, {0, 32, 42, api.OK}, {0, -1, 0, api.ErrArg}, {0, 2001, 0, api.ErrArg}, {-1, 0, 0, api.ErrArg}, {3, 0, 0, api.ErrArg}} {
		if n, e := Until(example(), duties(), c.person, c.from); n != c.want || e != c.e {
			t.Errorf("Until of %d from %d = %d, %d", c.person, c.from, n, e)
		}
	}
	if n, e := Until(example(), []api.Duty{duty(2, 15, 20)}, 2, 3); n != 7 || e != api.OK {
		t.Errorf("Until before a duty = %d, %d", n, e)
	}
	for _, c := range [][3]int{{-1, 0, 5}, {3, 0, 5}, {0, -1, 5}, {0, 5, 5}, {0, 6, 5}, {0, 0, 2001}} {
		if n, e := Worked(example(), duties(), c[0], c[1], c[2]); n != 0 || e != api.ErrArg {
			t.Errorf("Worked of %v = %d, %d", c, n, e)
		}
	}
	late := example()
	late.Recent = 2000
	if n, e := Until(late, nil, 0, 1995); n != 2000 || e != api.OK {
		t.Errorf("Until in the last ticks = %d, %d", n, e)
	}
}

func TestErrorsInTheirOrder(t *testing.T) {
	for name, f := range map[string]func(r api.Roster, l []api.Duty) api.Errno{
		"Why":    func(r api.Roster, l []api.Duty) api.Errno { _, e := Why(r, l, -1, api.Call{}); return e },
		"Crews":  func(r api.Roster, l []api.Duty) api.Errno { _, e := Crews(r, l, api.Call{}); return e },
		"Worked": func(r api.Roster, l []api.Duty) api.Errno { _, e := Worked(r, l, -1, -1, -1); return e },
		"Until":  func(r api.Roster, l []api.Duty) api.Errno { _, e := Until(r, l, -1, -1); return e },
	} {
		if e := f(api.Roster{}, make([]api.Duty, 61)); e != api.ErrRoster {
			t.Errorf("%s: %d", name, e)
		}
		if e := f(example(), make([]api.Duty, 61)); e != api.ErrMany {
			t.Errorf("%s: %d", name, e)
		}
		if e := f(example(), make([]api.Duty, 60)); e != api.ErrDuty {
			t.Errorf("%s: %d", name, e)
		}
		if e := f(example(), nil); e != api.ErrArg {
			t.Errorf("%s: %d", name, e)
		}
	}
}

// broken follows the text of the document, tick by tick.
func broken(r api.Roster, others []api.Duty, d api.Duty) []int {
	var l []int
	rest, recent := true, d.From <= r.Recent
	var on [120]bool
	for _, o := range append([]api.Duty{d}, others...) {
		for tick := o.From; tick < o.To; tick++ {
			on[tick] = true
		}
	}
	for _, o := range others {
		if o.From > d.From {
			rest = rest && o.From-d.To >= r.Rest
		} else {
			rest = rest && d.From-o.To >= r.Rest
		}
		recent = recent || o.To <= d.From && d.From-o.To <= r.Recent
	}
	if !rest {
		l = append(l, 3)
	}
	if d.To-d.From > r.Longest {
		l = append(l, 4)
	}
	most := 0
	for from := -30; from < 120; from++ {
		n := 0
		for tick := max(0, from); tick < min(120, from+r.Window); tick++ {
			if on[tick] {
				n++
			}
		}
		most = max(most, n)
	}
	if most > r.Total {
		l = append(l, 5)
	}
	if !recent {
		l = append(l, 6)
	}
	return l
}

func of(l []api.Duty, person int) []api.Duty {
	return slices.DeleteFunc(slices.Clone(l), func(d api.Duty) bool { return d.Person != person })
}

func random(r *rand.Rand) (api.Roster, []api.Duty) {
	window := 5 + r.Intn(20)
	x := api.Roster{Longest: 2 + r.Intn(8), Rest: r.Intn(6), Window: window, Total: 3 + r.Intn(window-4), Recent: 5 + r.Intn(25)}
	for range 1 + r.Intn(4) {
		x.People = append(x.People, api.Person{Ratings: r.Intn(8), Rank: r.Intn(4), Dive: r.Intn(80)})
	}
	var l []api.Duty
	from := 0
	for range 30 {
		from += r.Intn(4)
		d := duty(r.Intn(len(x.People)), from, from+1+r.Intn(8))
		if len(broken(x, of(l, d.Person), d)) == 0 {
			l = append(l, d)
		}
	}
	return x, l
}

func TestP10_12To14AnyDuties(t *testing.T) {
	r := rand.New(rand.NewSource(1))
	rules := map[int]int{}
	for range 150 {
		x, l := random(r)
		if at, e := Check(x, l); at != 0 || e != api.OK {
			t.Fatalf("Check of %v = %d, %d", l, at, e)
		}
		last := 0
		if len(l) > 0 {
			last = l[len(l)-1].From
		}
		for range 20 {
			person, from := r.Intn(len(x.People)), r.Intn(100)
			c := call(from, from+1+r.Intn(10), r.Intn(3), r.Intn(2) == 0)
			var want []int
			if x.People[person].Ratings&(1<<c.Craft) == 0 {
				want = append(want, 1)
			}
			if c.Water && x.People[person].Dive < c.To {
				want = append(want, 2)
			}
			d := duty(person, c.From, c.To)
			rest := broken(x, of(l, person), d)
			want = append(want, rest...)
			for _, n := range want {
				rules[n]++
			}
			if got, e := Why(x, l, person, c); !slices.Equal(got, want) || e != api.OK {
				t.Fatalf("Why of %d for %v in %v, %v = %v, %d, want %v", person, c, x, l, got, e, want)
			}
			if from >= last {
				at, e := Check(x, append(slices.Clone(l), d))
				if (e == api.OK) != (rest == nil) || e != api.OK && (at != len(l) || e != api.ErrDuty) {
					t.Fatalf("Check of %v behind %v = %d, %d, but Why is %v", d, l, at, e, rest)
				}
			}
			weak := x
			weak.Rest, weak.Longest, weak.Total, weak.Recent = max(0, x.Rest-1), x.Longest+1, min(x.Window, x.Total+1), x.Recent+1
			if got, e := Why(weak, l, person, c); e != api.OK || len(want) == 0 && len(got) > 0 {
				t.Fatalf("Why with weaker rules = %v, %d", got, e)
			}
		}
		testUntil(t, r, x, l)
		testDuties(t, x, l)
	}
	for n := 1; n <= 6; n++ {
		if rules[n] < 50 {
			t.Errorf("the rule %d is broken %d times", n, rules[n])
		}
	}
}

func testUntil(t *testing.T, r *rand.Rand, x api.Roster, l []api.Duty) {
	for range 10 {
		person, from := r.Intn(len(x.People)), r.Intn(90)
		want := 0
		for to := from + 1; to < 110; to++ {
			if broken(x, of(l, person), duty(person, from, to)) == nil {
				want = to
			}
		}
		n, e := Until(x, l, person, from)
		if want > 0 && (n != want || e != api.OK) || want == 0 && (n != 0 || e != api.ErrNone) {
			t.Fatalf("Until of %d from %d in %v, %v = %d, %d, want %d", person, from, x, l, n, e, want)
		}
		for to := from + 1; to <= n; to++ {
			if broken(x, of(l, person), duty(person, from, to)) != nil {
				t.Fatalf("Until is %d, but a duty up to %d breaks the rules", n, to)
			}
		}
	}
}

func testDuties(t *testing.T, x api.Roster, l []api.Duty) {
	for person := range x.People {
		own := of(l, person)
		for i := 1; i < len(own); i++ {
			if own[i].From < own[i-1].To+x.Rest {
				t.Fatalf("%v and %v have no rest", own[i-1], own[i])
			}
		}
		for from := range 100 {
			n, e := Worked(x, l, person, from, from+x.Window)
			if n > x.Total || e != api.OK {
				t.Fatalf("%d works for %d ticks in a window, %d", person, n, e)
			}
		}
	}
}

func TestP10_3CrewsAreThoseWhoMay(t *testing.T) {
	r := rand.New(rand.NewSource(2))
	pairs := 0
	for range 200 {
		x, l := random(r)
		from := r.Intn(60)
		c := call(from, from+1+r.Intn(5), r.Intn(3), r.Intn(3) == 0)
		var want [][2]int
		for i, p := range x.People {
			for k, q := range x.People {
				a, _ := Why(x, l, i, c)
				b, _ := Why(x, l, k, c)
				if i != k && a == nil && b == nil && p.Rank >= 2 && q.Rank >= 1 {
					want = append(want, [2]int{i, k})
				}
			}
		}
		pairs += len(want)
		if got, e := Crews(x, l, c); !slices.Equal(got, want) || e != api.OK {
			t.Fatalf("Crews = %v, %d, want %v", got, e, want)
		}
	}
	if pairs < 10 {
		t.Errorf("only %d pairs", pairs)
	}
}
