package fleet

import (
	"cmp"
	"math"
	"math/rand"
	"slices"
	"testing"

	"swashplate/api"
	"swashplate/crew"
	"swashplate/parts"
	"swashplate/route"
	"swashplate/samples"
	"swashplate/weather"
)

func span(low, high int) api.Span { return api.Span{Low: low, High: high} }

// example is the fleet of the document.
func example() api.Fleet { return samples.Fleet() }

// foggy closes a place from a tick on, before another one.
func foggy(f api.Fleet, place, from, to int) api.Fleet {
	fog := f.Met.Any
	fog.See = span(1000, 2000)
	f.Met.Forecasts = append(slices.Clone(f.Met.Forecasts), api.Forecast{Place: place, From: from, To: to, Sky: fog})
	return f
}

func with(change func(f *api.Fleet)) api.Fleet {
	f := example()
	change(&f)
	return f
}

func sortie(job, machine, commander, mate int) api.Sortie {
	return api.Sortie{Job: job, Machine: machine, Commander: commander, Mate: mate}
}

func best() []api.Sortie { return samples.Plan() }

func TestP11_1Check(t *testing.T) {
	for i, f := range []api.Fleet{
		with(func(f *api.Fleet) { f.Until, f.Jobs = 1, nil }), with(func(f *api.Fleet) { f.Jobs[0].Depart = 0 }), with(func(f *api.Fleet) { f.Met.Places, f.Net, f.Jobs, f.Bases = 1, nil, nil, []int{0, 0} }),
		example(), with(func(f *api.Fleet) { f.Jobs = slices.Repeat(f.Jobs, 2) }), with(func(f *api.Fleet) { f.Turn, f.Hour, f.Cover, f.Until = 0, 1, 2, 2000 }),
		with(func(f *api.Fleet) { f.Turn, f.Hour, f.Cover = 100, 100, 0 }), with(func(f *api.Fleet) { f.Register.Machines, f.Bases, f.Crafts, f.Cover = 0, nil, nil, 0 }),
		with(func(f *api.Fleet) { f.Crafts[1] = 7 }), with(func(f *api.Fleet) { f.Jobs[1].Value = 1000000; f.Jobs[1].Depart = 59 }),
	} {
		if e := Check(f); e != api.OK {
			t.Errorf("%d: Check = %d", i, e)
		}
	}
	for i, change := range []func(f *api.Fleet){
		func(f *api.Fleet) { f.Bases = f.Bases[:1] }, func(f *api.Fleet) { f.Crafts = []int{0, 0, 0} }, func(f *api.Fleet) { f.Bases[1] = 3 }, func(f *api.Fleet) { f.Bases[1] = -1 },
		func(f *api.Fleet) { f.Crafts[1] = 8 }, func(f *api.Fleet) { f.Crafts[1] = -1 }, func(f *api.Fleet) { f.Turn = -1 }, func(f *api.Fleet) { f.Turn = 101 }, func(f *api.Fleet) { f.Hour = 0 }, func(f *api.Fleet) { f.Hour = 101 },
		func(f *api.Fleet) { f.Cover = -1 }, func(f *api.Fleet) { f.Cover = 3 }, func(f *api.Fleet) { f.Until = 0 }, func(f *api.Fleet) { f.Until = 2001 },
		func(f *api.Fleet) { f.Jobs = slices.Repeat(f.Jobs, 3) }, func(f *api.Fleet) { f.Jobs = slices.Repeat(f.Jobs[:1], 7) }, func(f *api.Fleet) { f.Jobs[2].From = 2 }, func(f *api.Fleet) { f.Jobs[2].From = -1 }, func(f *api.Fleet) { f.Jobs[2].To = 3 },
		func(f *api.Fleet) { f.Jobs[2].Depart = -1 }, func(f *api.Fleet) { f.Jobs[2].Depart = 60 }, func(f *api.Fleet) { f.Jobs[2].Value = -1 }, func(f *api.Fleet) { f.Jobs[2].Value = 1000001 },
	} {
		if e := Check(with(change)); e != api.ErrFleet {
			t.Errorf("%d: Check = %d", i, e)
		}
	}
}

func TestErrorsInTheirOrder(t *testing.T) {
	calls := map[string]func(f api.Fleet) api.Errno{
		"Check":     Check,
		"Block":     func(f api.Fleet) api.Errno { _, _, _, e := Block(f, -1, -1); return e },
		"CheckPlan": func(f api.Fleet) api.Errno { _, e := CheckPlan(f, make([]api.Sortie, 2)); return e },
		"Value":     func(f api.Fleet) api.Errno { _, e := Value(f, make([]api.Sortie, 2)); return e },
		"Ready":     func(f api.Fleet) api.Errno { _, e := Ready(f, make([]api.Sortie, 2), -1); return e },
		"Best":      func(f api.Fleet) api.Errno { _, _, e := Best(f); return e },
		"Bound":     func(f api.Fleet) api.Errno { _, e := Bound(f, nil); return e },
		"Gap":       func(f api.Fleet) api.Errno { _, e := Gap(f, make([]api.Sortie, 2), nil); return e },
		"Replan":    func(f api.Fleet) api.Errno { _, _, e := Replan(f, make([]api.Sortie, 2), -1); return e },
	}
	steps := []struct {
		e      api.Errno
		damage func(f *api.Fleet)
	}{
		{api.ErrMet, func(f *api.Fleet) { f.Met.Places = 0 }},
		{api.ErrMinima, func(f *api.Fleet) { f.Minima.Wind = -1 }},
		{api.ErrNet, func(f *api.Fleet) { f.Net = []api.Leg{{}} }},
		{api.ErrRegister, func(f *api.Fleet) { f.Register.Orders = []api.Order{{Kind: 9}} }},
		{api.ErrMany, func(f *api.Fleet) { f.Works = make([]api.Work, 201) }},
		{api.ErrRoster, func(f *api.Fleet) { f.Roster.Window = 0 }},
		{api.ErrMany, func(f *api.Fleet) { f.Duties = make([]api.Duty, 61) }},
		{api.ErrFleet, func(f *api.Fleet) { f.Until = 0 }},
	}
	for name, call := range calls {
		for i := range steps {
			f := example()
			for _, s := range steps[i:] {
				s.damage(&f)
			}
			if e := call(f); e != steps[i].e {
				t.Errorf("%s with all from %d on wrong: %d, want %d", name, i, e, steps[i].e)
			}
		}
		if e := call(with(func(f *api.Fleet) { f.Works = make([]api.Work, 1); f.Roster.Window = 0 })); e != api.ErrWork {
			t.Errorf("%s: %d", name, e)
		}
		if e := call(with(func(f *api.Fleet) { f.Duties = make([]api.Duty, 1); f.Until = 0 })); e != api.ErrDuty {
			t.Errorf("%s: %d", name, e)
		}
	}
}

func TestP11_1Block(t *testing.T) {
	for _, c := range []struct {
		f                 api.Fleet
		job, machine      int
		leaves, home, air int
		e                 api.Errno
	}{
		{example(), 0, 0, 10, 22, 10, api.OK}, {example(), 0, 1, 3, 15, 10, api.OK}, {example(), 2, 1, 23, 45, 18, api.OK}, {example(), 1, 0, 5, 27, 18, api.OK},
		{example(), 3, 0, 0, 0, 0, api.ErrArg}, {example(), -1, 0, 0, 0, 0, api.ErrArg}, {example(), 0, 2, 0, 0, 0, api.ErrArg}, {example(), 0, -1, 0, 0, 0, api.ErrArg}, {example(), math.MaxInt, math.MinInt, 0, 0, 0, api.ErrArg},
		{with(func(f *api.Fleet) { f.Jobs[0].Depart = 7 }), 0, 1, 0, 12, 10, api.OK}, {with(func(f *api.Fleet) { f.Jobs[0].Depart = 6 }), 0, 1, 0, 0, 0, api.ErrNone},
		{with(func(f *api.Fleet) { f.Until = 46 }), 2, 1, 23, 45, 18, api.OK}, {with(func(f *api.Fleet) { f.Until = 45 }), 2, 1, 0, 0, 0, api.ErrNone},
		{with(func(f *api.Fleet) { f.Net = f.Net[:1] }), 1, 0, 0, 0, 0, api.ErrNone},
		{with(func(f *api.Fleet) { f.Register.Kinds[0].Places = 1 }), 0, 0, 0, 0, 0, api.ErrNone},
		{foggy(example(), 1, 3, 4), 0, 1, 0, 0, 0, api.ErrNone}, {foggy(example(), 1, 4, 15), 0, 1, 3, 15, 10, api.OK}, {foggy(example(), 1, 15, 16), 0, 1, 0, 0, 0, api.ErrNone},
		{foggy(example(), 0, 10, 11), 0, 1, 0, 0, 0, api.ErrNone}, {foggy(example(), 0, 8, 10), 0, 1, 3, 15, 10, api.OK}, {foggy(example(), 0, 22, 23), 0, 0, 0, 0, 0, api.ErrNone}, {foggy(example(), 1, 15, 16), 0, 0, 0, 0, 0, api.ErrNone},
		{foggy(example(), 1, 16, 60), 0, 0, 10, 22, 10, api.OK},
	} {
		if leaves, home, air, e := Block(c.f, c.job, c.machine); leaves != c.leaves || home != c.home || air != c.air || e != c.e {
			t.Errorf("Block of %d and %d = %d, %d, %d, %d, want %d, %d, %d, %d", c.job, c.machine, leaves, home, air, e, c.leaves, c.home, c.air, c.e)
		}
	}
}

func TestP11_1CheckPlanAndValue(t *testing.T) {
	free := with(func(f *api.Fleet) { f.Cover = 0 })
	tired := with(func(f *api.Fleet) { f.Cover, f.Roster.Rest = 0, 20 })
	short := with(func(f *api.Fleet) {
		f.Register.Kinds[0] = api.Kind{Hours: 2, Cycles: 10, Places: 1}
		f.Register.Parts = []api.Part{{Known: true}, {Known: true}}
		f.Works = []api.Work{{Kind: api.Fitted, A: 0, B: 0}, {Kind: api.Fitted, A: 1, B: 1}}
	})
	for i, c := range []struct {
		f         api.Fleet
		l         []api.Sortie
		at, value int
		e         api.Errno
	}{
		{example(), nil, 0, 0, api.OK},
		{example(), []api.Sortie{sortie(0, 0, 0, 2)}, 0, 5, api.OK},
		{example(), []api.Sortie{sortie(0, 0, 0, 2), sortie(1, 1, 1, 3)}, 1, 0, api.ErrPlan},
		{free, []api.Sortie{sortie(0, 0, 0, 2), sortie(1, 1, 1, 3)}, 0, 9, api.OK},
		{example(), best(), 0, 12, api.OK},
		{free, []api.Sortie{sortie(1, 1, 1, 3), sortie(0, 0, 0, 2)}, 1, 0, api.ErrPlan},
		{free, []api.Sortie{sortie(0, 0, 0, 2), sortie(0, 1, 1, 3)}, 1, 0, api.ErrPlan},
		{free, []api.Sortie{sortie(0, 0, 0, 2), sortie(1, 1, 0, 3)}, 1, 0, api.ErrPlan},
		{free, []api.Sortie{sortie(0, 0, 2, 0)}, 0, 0, api.ErrPlan},
		{free, []api.Sortie{sortie(0, 0, 0, 0)}, 0, 0, api.ErrPlan},
		{free, []api.Sortie{sortie(3, 0, 0, 1)}, 0, 0, api.ErrPlan}, {free, []api.Sortie{sortie(-1, 0, 0, 1)}, 0, 0, api.ErrPlan}, {free, []api.Sortie{sortie(0, 2, 0, 1)}, 0, 0, api.ErrPlan},
		{free, []api.Sortie{sortie(0, -1, 0, 1)}, 0, 0, api.ErrPlan}, {free, []api.Sortie{sortie(0, 0, 4, 1)}, 0, 0, api.ErrPlan}, {free, []api.Sortie{sortie(0, 0, 0, -1)}, 0, 0, api.ErrPlan},
		{tired, best(), 1, 0, api.ErrPlan},
		{tired, []api.Sortie{sortie(0, 0, 0, 2), sortie(2, 0, 1, 3)}, 0, 12, api.OK},
		{with(func(f *api.Fleet) { f.Turn = 9; f.Roster.Rest = 0; f.Net[0].Ticks = 5 }), best(), 1, 0, api.ErrPlan},
		{short, best(), 1, 0, api.ErrPlan},
		{with(func(f *api.Fleet) { f.Hour = 1 }), best(), 0, 12, api.OK},
		{with(func(f *api.Fleet) { f.Jobs[0].Water = true }), best(), 0, 0, api.ErrPlan},
		{with(func(f *api.Fleet) { f.Jobs[0].Water = true; f.Roster.People[0].Dive = 22; f.Roster.People[1].Dive = 22 }), best(), 0, 12, api.OK},
		{with(func(f *api.Fleet) { f.Crafts[0] = 1 }), best(), 0, 0, api.ErrPlan},
		{with(func(f *api.Fleet) { f.Duties = []api.Duty{{Person: 3, From: 11, To: 12}} }), best(), 0, 0, api.ErrPlan},
		{with(func(f *api.Fleet) { f.Duties = []api.Duty{{Person: 3, From: 10, To: 12}} }), best(), 0, 12, api.OK},
		{with(func(f *api.Fleet) { f.Duties = []api.Duty{{Person: 1, From: 9, To: 11}} }), best(), 0, 0, api.ErrPlan},
		{with(func(f *api.Fleet) { f.Cover = 2 }), best(), 0, 0, api.ErrPlan},
	} {
		if at, e := CheckPlan(c.f, c.l); at != c.at || e != c.e {
			t.Errorf("%d: CheckPlan = %d, %d", i, at, e)
		}
		if n, e := Value(c.f, c.l); n != c.value || e != c.e {
			t.Errorf("%d: Value = %d, %d", i, n, e)
		}
	}
}

// With 58 duties there is room for those of one sortie only.
func TestPlanWithTooManyDuties(t *testing.T) {
	f := example()
	f.Roster.People = append(f.Roster.People, slices.Repeat([]api.Person{{}}, 6)...)
	for from := range 10 {
		for person := 4; person < 10 && len(f.Duties) < 58; person++ {
			f.Duties = append(f.Duties, api.Duty{Person: person, From: from, To: from + 1})
		}
	}
	if at, e := CheckPlan(f, best()[:1]); at != 0 || e != api.OK {
		t.Errorf("CheckPlan of one = %d, %d", at, e)
	}
	if at, e := CheckPlan(f, best()); at != 1 || e != api.ErrPlan {
		t.Errorf("CheckPlan of two = %d, %d", at, e)
	}
}

func TestP11_1Ready(t *testing.T) {
	for _, c := range []struct {
		tick int
		want []int
		e    api.Errno
	}{{12, []int{1}, api.OK}, {22, []int{0, 1}, api.OK}, {9, []int{0, 1}, api.OK}, {10, []int{1}, api.OK}, {21, []int{1}, api.OK}, {59, []int{0, 1}, api.OK}, {0, []int{0, 1}, api.OK}, {-1, nil, api.ErrArg}, {60, nil, api.ErrArg}} {
		if l, e := Ready(example(), best(), c.tick); !slices.Equal(l, c.want) || e != c.e {
			t.Errorf("Ready in %d = %v, %d", c.tick, l, e)
		}
	}
	if l, e := Ready(example(), []api.Sortie{sortie(9, 9, 9, 9)}, -1); l != nil || e != api.ErrPlan {
		t.Errorf("Ready of a wrong plan = %v, %d", l, e)
	}
}

func TestP11_2Best(t *testing.T) {
	if l, n, e := Best(example()); !slices.Equal(l, best()) || n != 12 || e != api.OK {
		t.Errorf("Best = %v, %d, %d", l, n, e)
	}
	if l, n, e := Best(with(func(f *api.Fleet) { f.Cover = 2 })); len(l) != 0 || n != 0 || e != api.OK {
		t.Errorf("Best where nobody may fly = %v, %d, %d", l, n, e)
	}
	if l, n, e := Best(with(func(f *api.Fleet) { f.Jobs[0].Value, f.Jobs[1].Value = 0, 0 })); !slices.Equal(l, best()[1:]) || n != 7 || e != api.OK {
		t.Errorf("Best without a job that is worth nothing = %v, %d, %d", l, n, e)
	}
	at0 := with(func(f *api.Fleet) { f.Jobs[0].Depart = 0 })
	if l, n, e := Best(at0); !slices.Equal(l, []api.Sortie{sortie(0, 0, 0, 1), sortie(1, 1, 0, 1), sortie(2, 0, 0, 1)}) || n != 16 || e != api.OK {
		t.Errorf("Best with a job at 0 = %v, %d, %d", l, n, e)
	}
	for i, f := range []api.Fleet{
		with(func(f *api.Fleet) { f.Jobs = append(f.Jobs, f.Jobs[:2]...) }),
		with(func(f *api.Fleet) { f.Roster.People = append(f.Roster.People, api.Person{}) }),
	} {
		if l, n, e := Best(f); l != nil || n != 0 || e != api.ErrMany {
			t.Errorf("%d: Best = %v, %d, %d", i, l, n, e)
		}
		if l, n, e := Replan(f, nil, -1); l != nil || n != 0 || e != api.ErrMany {
			t.Errorf("%d: Replan = %v, %d, %d", i, l, n, e)
		}
	}
}

func TestP11_3BoundAndGap(t *testing.T) {
	for _, c := range []struct {
		prices []int
		want   int
	}{{[]int{0, 0, 0}, 24}, {[]int{5, 4, 7}, 16}, {[]int{5, 0, 7}, 12 + 4 + 4}, {[]int{1000000, 1000000, 1000000}, 3000000}} {
		if n, e := Bound(example(), c.prices); n != c.want || e != api.OK {
			t.Errorf("Bound with %v = %d, %d", c.prices, n, e)
		}
	}
	if n, e := Gap(example(), best(), []int{5, 4, 7}); n != 4 || e != api.OK {
		t.Errorf("Gap = %d, %d", n, e)
	}
	for _, prices := range [][]int{nil, {1, 2}, {1, 2, 3, 4}, {1, 2, -1}, {1, 2, 1000001}} {
		if n, e := Bound(example(), prices); n != 0 || e != api.ErrArg {
			t.Errorf("Bound with %v = %d, %d", prices, n, e)
		}
		if n, e := Gap(example(), best(), prices); n != 0 || e != api.ErrArg {
			t.Errorf("Gap with %v = %d, %d", prices, n, e)
		}
		if n, e := Gap(example(), []api.Sortie{sortie(9, 9, 9, 9)}, prices); n != 0 || e != api.ErrPlan {
			t.Errorf("Gap of a wrong plan with %v = %d, %d", prices, n, e)
		}
	}
}

func TestP11_4Replan(t *testing.T) {
	fog := foggy(example(), 2, 25, 60)
	if l, n, e := Replan(fog, best(), 20); !slices.Equal(l, best()[:1]) || n != 5 || e != api.OK {
		t.Errorf("Replan in fog = %v, %d, %d", l, n, e)
	}
	// The place 1, where the job 0 ends, is closed by now: what has left is kept all the same.
	if l, n, e := Replan(foggy(example(), 1, 0, 60), best(), 11); !slices.Equal(l, best()) || n != 12 || e != api.OK {
		t.Errorf("Replan behind a job that nobody could fly now = %v, %d, %d", l, n, e)
	}
	if l, n, e := Replan(foggy(example(), 1, 0, 60), best(), 10); !slices.Equal(l, best()[1:]) || n != 7 || e != api.OK {
		t.Errorf("Replan before a job that nobody can fly = %v, %d, %d", l, n, e)
	}
	if l, n, e := Replan(example(), best(), 60); !slices.Equal(l, best()) || n != 12 || e != api.OK {
		t.Errorf("Replan at the end = %v, %d, %d", l, n, e)
	}
	if l, n, e := Replan(example(), nil, 31); len(l) != 0 || n != 0 || e != api.OK {
		t.Errorf("Replan when it is too late = %v, %d, %d", l, n, e)
	}
	if l, n, e := Replan(example(), []api.Sortie{sortie(0, 0, 0, 1), sortie(2, 0, 9, -9)}, 30); !slices.Equal(l, best()) || n != 12 || e != api.OK {
		t.Errorf("Replan of a sortie that has not left = %v, %d, %d", l, n, e)
	}
	for i, c := range []struct {
		f   api.Fleet
		l   []api.Sortie
		now int
		e   api.Errno
	}{
		{example(), []api.Sortie{sortie(9, 9, 9, 9)}, -1, api.ErrArg}, {example(), nil, 61, api.ErrArg}, {example(), nil, math.MaxInt, api.ErrArg},
		{example(), []api.Sortie{sortie(0, 0, 0, 0)}, 20, api.ErrPlan}, {example(), []api.Sortie{sortie(3, 0, 0, 1)}, 0, api.ErrPlan}, {example(), []api.Sortie{sortie(0, 2, 0, 1)}, 0, api.ErrPlan},
		{with(func(f *api.Fleet) { f.Net = f.Net[:1] }), []api.Sortie{sortie(2, 0, 0, 1)}, 0, api.ErrPlan},
		{example(), []api.Sortie{sortie(2, 0, 0, 1), sortie(0, 0, 0, 1)}, 60, api.ErrPlan}, {example(), []api.Sortie{sortie(0, 0, 0, 2), sortie(1, 1, 1, 3)}, 60, api.ErrPlan},
		{example(), []api.Sortie{sortie(0, 0, 0, 1), sortie(0, 0, 0, 1)}, 60, api.ErrPlan},
		{with(func(f *api.Fleet) { f.Jobs[0].Depart = 6 }), []api.Sortie{sortie(0, 1, 0, 1)}, 0, api.ErrPlan},
	} {
		if l, n, e := Replan(c.f, c.l, c.now); l != nil || n != 0 || e != c.e {
			t.Errorf("%d: Replan = %v, %d, %d", i, l, n, e)
		}
	}
}

// model follows the text of the document.
type model struct {
	f     api.Fleet
	times [][]int
}

func newModel(f api.Fleet) model {
	times, _ := route.Times(f.Met, f.Net)
	return model{f, times}
}

func (m model) open(place, tick int) bool {
	is, e := weather.Open(m.f.Met, m.f.Minima, place, tick)
	return is && e == api.OK
}

func (m model) block(job, machine int) (leaves, arrives, home, air int) {
	j, base := m.f.Jobs[job], m.f.Bases[machine]
	leaves, arrives = j.Depart, j.Depart+m.times[j.From][j.To]
	home = arrives
	if base != j.From {
		leaves -= m.f.Turn + m.times[base][j.From]
	}
	if base != j.To {
		home += m.f.Turn + m.times[j.To][base]
	}
	return leaves, arrives, home, m.times[base][j.From] + m.times[j.From][j.To] + m.times[j.To][base]
}

func (m model) flyable(job, machine int, withWeather bool) bool {
	j, base := m.f.Jobs[job], m.f.Bases[machine]
	if m.times[base][j.From] < 0 || m.times[j.From][j.To] < 0 || m.times[j.To][base] < 0 {
		return false
	}
	leaves, arrives, home, _ := m.block(job, machine)
	_, e := parts.Longest(m.f.Register, m.f.Works, machine, 0)
	if leaves < 0 || home >= m.f.Until || e != api.OK {
		return false
	}
	return !withWeather || m.open(base, leaves) && m.open(j.From, j.Depart) && m.open(j.To, arrives) && m.open(base, home)
}

// right reports whether the last sortie is right beside those before it.
func (m model) right(l []api.Sortie, withWeather bool) bool {
	s, before := l[len(l)-1], l[:len(l)-1]
	if !m.flyable(s.Job, s.Machine, withWeather) {
		return false
	}
	leaves, _, home, air := m.block(s.Job, s.Machine)
	duties := slices.Clone(m.f.Duties)
	for _, b := range before {
		bLeaves, _, bHome, bAir := m.block(b.Job, b.Machine)
		if b.Job == s.Job || b.Machine == s.Machine && leaves < bHome+m.f.Turn {
			return false
		}
		if b.Machine == s.Machine {
			air += bAir
		}
		duties = append(duties, api.Duty{Person: b.Commander, From: bLeaves, To: bHome}, api.Duty{Person: b.Mate, From: bLeaves, To: bHome})
	}
	if len(before) > 0 {
		last := before[len(before)-1]
		if lastLeaves, _, _, _ := m.block(last.Job, last.Machine); lastLeaves > leaves || lastLeaves == leaves && last.Job > s.Job {
			return false
		}
	}
	longest, _ := parts.Longest(m.f.Register, m.f.Works, s.Machine, 0)
	if air > longest*m.f.Hour {
		return false
	}
	pairs, e := crew.Crews(m.f.Roster, duties, api.Call{From: leaves, To: home, Craft: m.f.Crafts[s.Machine], Water: m.f.Jobs[s.Job].Water})
	if e != api.OK || !slices.Contains(pairs, [2]int{s.Commander, s.Mate}) {
		return false
	}
	if _, e := crew.Check(m.f.Roster, append(duties, api.Duty{Person: s.Commander, From: leaves, To: home}, api.Duty{Person: s.Mate, From: leaves, To: home})); e != api.OK {
		return false
	}
	for tick := range m.f.Until {
		if len(m.ready(l, tick)) < m.f.Cover {
			return false
		}
	}
	return true
}

func (m model) ready(l []api.Sortie, tick int) []int {
	var ready []int
	for machine := range m.f.Bases {
		busy := false
		for _, s := range l {
			leaves, _, home, _ := m.block(s.Job, s.Machine)
			busy = busy || s.Machine == machine && tick >= leaves && tick < home
		}
		if !busy {
			ready = append(ready, machine)
		}
	}
	return ready
}

func (m model) value(l []api.Sortie) int {
	n := 0
	for _, s := range l {
		n += m.f.Jobs[s.Job].Value
	}
	return n
}

// plans returns all right plans that begin with those that are kept, and leave at a tick or later.
func (m model) plans(kept []api.Sortie, now int) [][]api.Sortie {
	all := [][]api.Sortie{kept}
	people := len(m.f.Roster.People)
	for job := range m.f.Jobs {
		for machine := range m.f.Bases {
			if !m.flyable(job, machine, true) {
				continue
			}
			if leaves, _, _, _ := m.block(job, machine); leaves < now {
				continue
			}
			for pair := range people * people {
				l := append(slices.Clone(kept), sortie(job, machine, pair/people, pair%people))
				if m.right(l, true) {
					all = append(all, m.plans(l, now)...)
				}
			}
		}
	}
	return all
}

func (m model) first(plans [][]api.Sortie) []api.Sortie {
	return slices.MinFunc(plans, func(a, b []api.Sortie) int {
		return cmp.Or(cmp.Compare(m.value(b), m.value(a)), cmp.Compare(len(a), len(b)), slices.CompareFunc(a, b, func(s, t api.Sortie) int {
			return cmp.Or(cmp.Compare(s.Job, t.Job), cmp.Compare(s.Machine, t.Machine), cmp.Compare(s.Commander, t.Commander), cmp.Compare(s.Mate, t.Mate))
		}))
	})
}

func random(r *rand.Rand) api.Fleet {
	f := example()
	machines := 1 + r.Intn(3)
	f.Register = api.Register{Kinds: []api.Kind{{Hours: 30, Cycles: 9, Places: 1}}, Machines: machines}
	f.Bases, f.Crafts, f.Jobs, f.Works = nil, nil, nil, nil
	for m := range machines {
		f.Bases, f.Crafts = append(f.Bases, r.Intn(3)), append(f.Crafts, r.Intn(2))
		f.Register.Parts = append(f.Register.Parts, api.Part{Hours: r.Intn(22), Known: true})
		if r.Intn(8) > 0 {
			f.Works = append(f.Works, api.Work{Kind: api.Fitted, A: m, B: m})
		}
	}
	f.Net = []api.Leg{{A: 0, B: 1, Ticks: 1 + r.Intn(4)}, {A: 1, B: 2, Ticks: 1 + r.Intn(4)}, {A: 0, B: 2, Ticks: 1 + r.Intn(9)}}
	if r.Intn(10) == 0 {
		f.Net = f.Net[:1]
	}
	for range 1 + r.Intn(4) {
		from := r.Intn(3)
		f.Jobs = append(f.Jobs, api.Job{From: from, To: (from + 1 + r.Intn(2)) % 3, Depart: 5 + r.Intn(30), Value: r.Intn(6), Water: r.Intn(4) == 0})
	}
	f.Turn, f.Hour, f.Cover, f.Until = r.Intn(3), 1+r.Intn(9), r.Intn(machines)*r.Intn(2), 40+r.Intn(40)
	f.Roster.People = nil
	for range 2 + r.Intn(2) {
		f.Roster.People = append(f.Roster.People, api.Person{Ratings: 3 - r.Intn(4)/3, Rank: 3 - r.Intn(3), Dive: r.Intn(120)})
	}
	f.Roster.Rest, f.Roster.Longest, f.Roster.Total, f.Roster.Recent = r.Intn(7), 12+r.Intn(30), 20+r.Intn(60), 15+r.Intn(40)
	for range r.Intn(3) {
		from := r.Intn(50)
		f = foggy(f, r.Intn(3), from, from+1+r.Intn(12))
	}
	if r.Intn(3) == 0 {
		f.Duties = []api.Duty{{Person: 0, From: 2, To: 4}}
	}
	return f
}

func TestP11_5To10AllPlans(t *testing.T) {
	r := rand.New(rand.NewSource(1))
	flown, long, changed := 0, 0, 0
	for range 120 {
		f := random(r)
		if e := Check(f); e != api.OK {
			t.Fatal(e)
		}
		m := newModel(f)
		for job := range f.Jobs {
			for machine := range f.Bases {
				leaves, home, air, e := Block(f, job, machine)
				if !m.flyable(job, machine, true) {
					if leaves != 0 || home != 0 || air != 0 || e != api.ErrNone {
						t.Fatalf("Block = %d, %d, %d, %d", leaves, home, air, e)
					}
				} else if wLeaves, _, wHome, wAir := m.block(job, machine); leaves != wLeaves || home != wHome || air != wAir || e != api.OK {
					t.Fatalf("Block = %d, %d, %d, %d", leaves, home, air, e)
				}
			}
		}
		plans := m.plans(nil, 0)
		want := m.first(plans)
		l, n, e := Best(f)
		if !slices.Equal(l, want) || n != m.value(want) || e != api.OK {
			t.Fatalf("Best of %+v = %v, %d, %d, want %v", f, l, n, e, want)
		}
		flown += len(l)
		if len(l) > 1 {
			long++
		}
		if again, k, e := Replan(f, l, 0); !slices.Equal(again, l) || k != n || e != api.OK {
			t.Fatalf("Replan at 0 = %v, %d, %d", again, k, e)
		}
		var prices []int
		for range f.Jobs {
			prices = append(prices, r.Intn(7))
		}
		testBound(t, m, prices)
		for range 6 {
			testPlan(t, r, m, plans[r.Intn(len(plans))], prices)
		}
		// In the weather of another fleet what has left is kept.
		plan := plans[r.Intn(len(plans))]
		now := r.Intn(f.Until + 1)
		g := foggy(f, r.Intn(3), now, now+10)
		var kept []api.Sortie
		for _, s := range plan {
			if leaves, _, _, _ := m.block(s.Job, s.Machine); leaves < now {
				kept = append(kept, s)
			}
		}
		x := newModel(g)
		want = x.first(x.plans(kept, now))
		if !slices.Equal(want, plan) {
			changed++
		}
		if l, n, e := Replan(g, plan, now); !slices.Equal(l, want) || n != x.value(want) || e != api.OK {
			t.Fatalf("Replan of %v at %d = %v, %d, %d, want %v", plan, now, l, n, e, want)
		}
	}
	if flown < 100 || long < 20 || changed < 20 {
		t.Errorf("%d sorties, %d plans of several, %d plans anew", flown, long, changed)
	}
}

func testPlan(t *testing.T, r *rand.Rand, m model, l []api.Sortie, prices []int) {
	for n := range len(l) + 1 {
		if at, e := CheckPlan(m.f, l[:n]); at != 0 || e != api.OK {
			t.Fatalf("CheckPlan of %v = %d, %d", l[:n], at, e)
		}
	}
	value, e := Value(m.f, l)
	if value != m.value(l) || e != api.OK {
		t.Fatalf("Value = %d, %d", value, e)
	}
	for tick := range m.f.Until {
		ready, e := Ready(m.f, l, tick)
		if !slices.Equal(ready, m.ready(l, tick)) || len(ready) < m.f.Cover || e != api.OK {
			t.Fatalf("Ready of %v in %d = %v, %d", l, tick, ready, e)
		}
	}
	bound, _ := Bound(m.f, prices)
	if gap, e := Gap(m.f, l, prices); gap != bound-value || gap < 0 || e != api.OK {
		t.Fatalf("Gap of %v = %d, %d", l, gap, e)
	}
	air := make([]int, len(m.f.Bases))
	for _, s := range l {
		_, _, _, n := m.block(s.Job, s.Machine)
		air[s.Machine] += n
	}
	for machine, n := range air {
		hours := (n + m.f.Hour - 1) / m.f.Hour
		if _, e := parts.Check(m.f.Register, append(slices.Clone(m.f.Works), api.Work{Kind: api.Flown, A: machine, B: hours})); n > 0 && e != api.OK {
			t.Fatalf("the machine %d cannot fly %d hours: %d", machine, hours, e)
		}
	}
	weak := m.f
	weak.Minima = api.Minima{Wind: 300}
	if at, e := CheckPlan(weak, l); at != 0 || e != api.OK {
		t.Fatalf("CheckPlan with weaker minima = %d, %d", at, e)
	}
	if _, better, e := Best(weak); better < value || e != api.OK {
		t.Fatalf("Best with weaker minima is worth %d, %d, %v is worth %d", better, e, l, value)
	}
	if _, n, e := Replan(m.f, l, m.f.Until); n != value || e != api.OK {
		t.Fatalf("Replan of %v at the end is worth %d, %d, not %d", l, n, e, value)
	}
	// One sortie changed: right or not, as the model says.
	if len(l) > 0 {
		if n, _ := Value(m.f, l[:len(l)-1]); n != value-m.f.Jobs[l[len(l)-1].Job].Value {
			t.Fatalf("Value of %v without its last sortie = %d", l, n)
		}
		other := slices.Clone(l)
		i := r.Intn(len(l))
		other[i] = sortie(r.Intn(len(m.f.Jobs)), r.Intn(len(m.f.Bases)), r.Intn(len(m.f.Roster.People)), r.Intn(len(m.f.Roster.People)))
		want := -1
		for n := range other {
			if want < 0 && !m.right(other[:n+1], true) {
				want = n
			}
		}
		at, e := CheckPlan(m.f, other)
		if want < 0 && e != api.OK || want >= 0 && (at != want || e != api.ErrPlan) {
			t.Fatalf("CheckPlan of %v = %d, %d, want %d", other, at, e, want)
		}
	}
}

func testBound(t *testing.T, m model, prices []int) {
	want := 0
	for _, p := range prices {
		want += p
	}
	for machine := range m.f.Bases {
		longest, _ := parts.Longest(m.f.Register, m.f.Works, machine, 0)
		most := 0
		for set := range 1 << len(m.f.Jobs) {
			earned, air, right := 0, 0, true
			for i := range m.f.Jobs {
				if set>>i&1 == 0 {
					continue
				}
				if !m.flyable(i, machine, true) {
					right = false
					continue
				}
				leaves, _, home, n := m.block(i, machine)
				earned, air = earned+m.f.Jobs[i].Value-prices[i], air+n
				for k := range i {
					kLeaves, _, kHome, _ := m.block(k, machine)
					if set>>k&1 == 1 && m.flyable(k, machine, true) && leaves < kHome+m.f.Turn && kLeaves < home+m.f.Turn {
						right = false
					}
				}
			}
			if right && air <= longest*m.f.Hour {
				most = max(most, earned)
			}
		}
		want += most
	}
	if n, e := Bound(m.f, prices); n != want || e != api.OK {
		t.Fatalf("Bound = %d, %d, want %d", n, e, want)
	}
}

// Four machines, people and jobs that leave at different times, and a crew that cannot fly the last job: all crews of the others are tried.
func TestBestOfTheGreatestFleet(t *testing.T) {
	f := example()
	f.Register.Machines, f.Bases, f.Crafts = 4, []int{0, 0, 0, 0}, []int{0, 0, 0, 0}
	f.Cover = 0
	f.Until = 400
	for i := range f.Roster.People {
		f.Roster.People[i].Rank = 3
	}
	f.Roster.Window, f.Roster.Total, f.Roster.Longest, f.Roster.Recent = 2000, 25, 60, 2000
	f.Jobs = nil
	for i := range 4 {
		f.Jobs = append(f.Jobs, api.Job{From: 0, To: 1, Depart: 10 + 30*i, Value: 1 + i})
	}
	if l, n, e := Best(f); len(l) != 4 || n != 10 || e != api.OK {
		t.Errorf("Best = %v, %d, %d", l, n, e)
	}
	f.Roster.Total = 23
	if l, n, e := Best(f); len(l) != 2 || n != 7 || e != api.OK {
		t.Errorf("Best of tired people = %v, %d, %d", l, n, e)
	}
	f.Roster.Total = 40
	f.Jobs[3].Water = true
	if l, n, e := Best(f); len(l) != 3 || n != 6 || e != api.OK {
		t.Errorf("Best without the last job = %v, %d, %d", l, n, e)
	}
}

// worn is the fleet with one machine, whose part can still fly so many hours and cycles.
func worn(hours, cycles int) api.Fleet {
	return with(func(f *api.Fleet) {
		f.Register = api.Register{Kinds: []api.Kind{{Hours: 50, Cycles: 50, Places: 1}}, Parts: []api.Part{{Hours: 50 - hours, Cycles: 50 - cycles, Known: true}}, Machines: 1}
		f.Works = []api.Work{{Kind: api.Fitted}}
		f.Bases, f.Crafts, f.Cover, f.Hour = []int{0}, []int{0}, 0, 2
	})
}

func TestWornMachines(t *testing.T) {
	for _, c := range []struct {
		hours, cycles, value, bound int
		e                           api.Errno
	}{{14, 0, 12, 12, api.OK}, {13, 1, 7, 7, api.OK}, {9, 9, 7, 7, api.OK}, {8, 9, 5, 5, api.OK}, {5, 0, 5, 5, api.OK}, {4, 9, 0, 0, api.OK}, {0, 0, 0, 0, api.OK}, {-1, 9, 0, 0, api.ErrNone}, {9, -1, 0, 0, api.ErrNone}} {
		f := worn(c.hours, c.cycles)
		f.Jobs[1].Value = 0
		if _, _, _, e := Block(f, 0, 0); e != c.e {
			t.Errorf("Block with %d hours and %d cycles: %d", c.hours, c.cycles, e)
		}
		if l, n, e := Best(f); n != c.value || e != api.OK {
			t.Errorf("Best with %d hours and %d cycles = %v, %d, %d", c.hours, c.cycles, l, n, e)
		}
		if n, e := Bound(f, []int{0, 0, 0}); n != c.bound || e != api.OK {
			t.Errorf("Bound with %d hours and %d cycles = %d, %d", c.hours, c.cycles, n, e)
		}
	}
}

// The job 0 of the machine 0 is home at 22: another one may leave Turn ticks later, not before.
func TestTurn(t *testing.T) {
	for _, depart := range []int{23, 24, 25} {
		f := worn(50, 50)
		f.Jobs = []api.Job{{From: 0, To: 1, Depart: depart, Value: 1}, f.Jobs[0]}
		want := 5
		if depart >= 24 {
			want = 6
		}
		if l, n, e := Best(f); n != want || e != api.OK {
			t.Errorf("Best with a job at %d = %v, %d, %d", depart, l, n, e)
		}
		if n, e := Bound(f, []int{0, 0}); n != want || e != api.OK {
			t.Errorf("Bound with a job at %d = %d, %d", depart, n, e)
		}
		slices.Reverse(f.Jobs)
		if n, e := Bound(f, []int{0, 0}); n != want || e != api.OK {
			t.Errorf("Bound with a job at %d behind the other = %d, %d", depart, n, e)
		}
	}
}

// Sorties that leave in the same tick stand in the order of their jobs.
func TestSortiesInTheSameTick(t *testing.T) {
	f := with(func(f *api.Fleet) { f.Cover, f.Bases, f.Jobs[1] = 0, []int{0, 0}, f.Jobs[0] })
	l := []api.Sortie{sortie(0, 0, 0, 2), sortie(1, 1, 1, 3)}
	if at, e := CheckPlan(f, l); at != 0 || e != api.OK {
		t.Errorf("CheckPlan = %d, %d", at, e)
	}
	slices.Reverse(l)
	if at, e := CheckPlan(f, l); at != 1 || e != api.ErrPlan {
		t.Errorf("CheckPlan of the opposite order = %d, %d", at, e)
	}
	if at, e := CheckPlan(f, []api.Sortie{sortie(0, 0, 0, 2), sortie(1, 1, 1, 3), sortie(2, 0, 0, 1)}); at != 0 || e != api.OK {
		t.Errorf("CheckPlan of three = %d, %d", at, e)
	}
	if at, e := CheckPlan(f, []api.Sortie{sortie(2, 0, 0, 1), sortie(0, 0, 0, 2)}); at != 1 || e != api.ErrPlan {
		t.Errorf("CheckPlan of one that left before = %d, %d", at, e)
	}
}

// TestTiredCrews finds the best plans where people need their rest: who flies a job decides who may fly the next ones.
func TestTiredCrews(t *testing.T) {
	r := rand.New(rand.NewSource(2))
	flown := map[int]int{}
	for range 80 {
		f := example()
		f.Bases, f.Cover, f.Until = []int{0, r.Intn(2)}, 0, 90
		f.Jobs = nil
		for range 4 {
			from := r.Intn(2)
			f.Jobs = append(f.Jobs, api.Job{From: from, To: 1 - from, Depart: 10 + r.Intn(50), Value: 1 + r.Intn(3)})
		}
		f.Roster.People = nil
		for range 3 {
			f.Roster.People = append(f.Roster.People, api.Person{Ratings: 1, Rank: 3 - r.Intn(4)/2})
		}
		f.Roster.Rest, f.Roster.Total, f.Roster.Window, f.Roster.Recent = r.Intn(14), 25+r.Intn(40), 100, 30+r.Intn(30)
		m := newModel(f)
		want := m.first(m.plans(nil, 0))
		l, n, e := Best(f)
		if !slices.Equal(l, want) || n != m.value(want) || e != api.OK {
			t.Fatalf("Best of %+v = %v, %d, %d, want %v", f, l, n, e, want)
		}
		flown[len(l)]++
	}
	if flown[1] < 5 || flown[2] < 5 || flown[3] < 5 {
		t.Errorf("sorties of the plans: %v", flown)
	}
}

// Both machines could fly the job 1, but the machine 0 leaves for it before the crew of the job 0 has had its rest: a lower commander or mate of the job 0 comes before a lower machine of the job 1.
func TestCrewsBeforeLaterMachines(t *testing.T) {
	f := with(func(f *api.Fleet) { f.Cover, f.Roster.Rest, f.Jobs = 0, 5, f.Jobs[:2]; f.Jobs[1].Depart = 31 })
	if l, n, e := Best(f); !slices.Equal(l, []api.Sortie{sortie(0, 0, 0, 1), sortie(1, 1, 0, 1)}) || n != 9 || e != api.OK {
		t.Errorf("Best = %v, %d, %d", l, n, e)
	}
	// Only the people 0 and 3 may fly over water, so they must not fly the job 0.
	f.Jobs[1].Water = true
	f.Bases[1] = 0
	f.Roster.People = []api.Person{{Ratings: 1, Rank: 2, Dive: 100}, {Ratings: 1, Rank: 1}, {Ratings: 1, Rank: 2}, {Ratings: 1, Rank: 1, Dive: 100}}
	if l, n, e := Best(f); !slices.Equal(l, []api.Sortie{sortie(0, 0, 2, 1), sortie(1, 0, 0, 3)}) || n != 9 || e != api.OK {
		t.Errorf("Best over water = %v, %d, %d", l, n, e)
	}
}
