package parts

import (
	"math"
	"math/rand"
	"slices"
	"testing"

	"swashplate/api"
	"swashplate/samples"
)

func work(numbers ...int) api.Work {
	n := append(numbers, 0, 0, 0)
	return api.Work{Kind: n[0], A: n[1], B: n[2], C: n[3]}
}

// example is the register of the document, and works its works W.
func example() api.Register { return samples.Register() }

func works(more ...api.Work) []api.Work { return append(samples.Works(), more...) }

func TestP9_1CheckOfRegisters(t *testing.T) {
	great := api.Register{Kinds: slices.Repeat([]api.Kind{{Hours: 100000, Cycles: 100000, Places: 4}}, 6), Parts: slices.Repeat([]api.Part{{Kind: 5, Hours: 100000, Cycles: 100000}}, 24), Machines: 4, Orders: slices.Repeat([]api.Order{{Kind: 5, Within: 100000}}, 6)}
	for i, r := range []api.Register{example(), {}, great} {
		if at, e := Check(r, nil); at != 0 || e != api.OK {
			t.Errorf("%d: Check = %d, %d", i, at, e)
		}
	}
	for i, change := range []func(r *api.Register){
		func(r *api.Register) { r.Kinds = slices.Repeat(r.Kinds, 4) }, func(r *api.Register) { r.Parts = slices.Repeat(r.Parts, 7) }, func(r *api.Register) { r.Orders = slices.Repeat(r.Orders, 7) },
		func(r *api.Register) { r.Machines = -1 }, func(r *api.Register) { r.Machines = 5 },
		func(r *api.Register) { r.Kinds[1].Hours = 0 }, func(r *api.Register) { r.Kinds[1].Hours = 100001 }, func(r *api.Register) { r.Kinds[1].Cycles = 0 }, func(r *api.Register) { r.Kinds[1].Cycles = 100001 },
		func(r *api.Register) { r.Kinds[1].Places = -1 }, func(r *api.Register) { r.Kinds[1].Places = 5 },
		func(r *api.Register) { r.Parts[3].Kind = 2 }, func(r *api.Register) { r.Parts[3].Kind = -1 }, func(r *api.Register) { r.Parts[3].Hours = -1 }, func(r *api.Register) { r.Parts[3].Hours = 100001 },
		func(r *api.Register) { r.Parts[3].Cycles = -1 }, func(r *api.Register) { r.Parts[3].Cycles = 100001 },
		func(r *api.Register) { r.Orders[0].Kind = 2 }, func(r *api.Register) { r.Orders[0].Within = -1 }, func(r *api.Register) { r.Orders[0].Within = 100001 },
	} {
		r := example()
		change(&r)
		if at, e := Check(r, make([]api.Work, 201)); at != 0 || e != api.ErrRegister {
			t.Errorf("%d: Check = %d, %d", i, at, e)
		}
	}
}

func TestP9_1CheckOfWorks(t *testing.T) {
	if at, e := Check(example(), works()); at != 0 || e != api.OK {
		t.Errorf("Check = %d, %d", at, e)
	}
	for i, c := range []struct {
		more []api.Work
		at   int
		e    api.Errno
	}{
		{[]api.Work{work(api.Flown, 0, 6, 37)}, 0, api.OK},
		{[]api.Work{work(api.Flown, 0, 7, 0)}, 4, api.ErrWork},
		{[]api.Work{work(api.Flown, 0, 0, 38)}, 4, api.ErrWork},
		{[]api.Work{work(api.Flown, 1, 1, 1)}, 4, api.ErrWork},
		{[]api.Work{work(api.Flown, -1, 1, 1)}, 4, api.ErrWork},
		{[]api.Work{work(api.Flown, 0, -1, 1)}, 4, api.ErrWork},
		{[]api.Work{work(api.Flown, 0, 1, -1)}, 4, api.ErrWork},
		{[]api.Work{work(api.Taken, 3), work(api.Flown, 0, 0, 0)}, 5, api.ErrWork},
		{[]api.Work{work(api.Taken, 0), work(api.Fitted, 1, 0, 0), work(api.Flown, 0, 100, 50)}, 0, api.OK},
		{[]api.Work{work(api.Taken, 0), work(api.Fitted, 1, 0, 0), work(api.Flown, 0, 101, 50)}, 6, api.ErrWork},
		{[]api.Work{work(api.Fitted, 1, 0, 0)}, 4, api.ErrWork},
		{[]api.Work{work(api.Taken, 2), work(api.Fitted, 2, 0, 1)}, 5, api.ErrWork},
		{[]api.Work{work(api.Taken, 2), work(api.Fitted, 2, 0, 2)}, 5, api.ErrWork},
		{[]api.Work{work(api.Taken, 2), work(api.Fitted, 2, 0, -1)}, 5, api.ErrWork},
		{[]api.Work{work(api.Taken, 2), work(api.Fitted, 2, 1, 0)}, 5, api.ErrWork},
		{[]api.Work{work(api.Taken, 2), work(api.Fitted, 4, 0, 0)}, 5, api.ErrWork},
		{[]api.Work{work(api.Fitted, 2, 0, 0)}, 4, api.ErrWork},
		{[]api.Work{work(api.Taken, 1)}, 4, api.ErrWork}, {[]api.Work{work(api.Taken, 4)}, 4, api.ErrWork}, {[]api.Work{work(api.Taken, -1)}, 4, api.ErrWork},
		{[]api.Work{work(api.Taken, 0, 1, 0)}, 4, api.ErrWork}, {[]api.Work{work(api.Taken, 0, 0, 1)}, 4, api.ErrWork},
		{[]api.Work{work(api.Issued, 0), work(api.Flown, 0, 5, 0)}, 0, api.OK},
		{[]api.Work{work(api.Issued, 0), work(api.Flown, 0, 6, 0)}, 5, api.ErrWork},
		{[]api.Work{work(api.Issued, 0), work(api.Checked, 2, 0), work(api.Flown, 0, 6, 0)}, 6, api.ErrWork},
		{[]api.Work{work(api.Issued, 0), work(api.Checked, 2, 0), work(api.Checked, 3, 0), work(api.Flown, 0, 6, 0)}, 0, api.OK},
		{[]api.Work{work(api.Issued, 0), work(api.Issued, 0)}, 5, api.ErrWork}, {[]api.Work{work(api.Issued, 1)}, 4, api.ErrWork}, {[]api.Work{work(api.Issued, -1)}, 4, api.ErrWork},
		{[]api.Work{work(api.Issued, 0, 1)}, 4, api.ErrWork}, {[]api.Work{work(api.Issued, 0, 0, 1)}, 4, api.ErrWork},
		{[]api.Work{work(api.Checked, 2, 0)}, 4, api.ErrWork},
		{[]api.Work{work(api.Issued, 0), work(api.Checked, 0, 0)}, 5, api.ErrWork}, {[]api.Work{work(api.Issued, 0), work(api.Checked, 2, 0), work(api.Checked, 2, 0)}, 6, api.ErrWork},
		{[]api.Work{work(api.Issued, 0), work(api.Checked, 2, 1)}, 5, api.ErrWork}, {[]api.Work{work(api.Issued, 0), work(api.Checked, 4, 0)}, 5, api.ErrWork}, {[]api.Work{work(api.Issued, 0), work(api.Checked, 2, 0, 1)}, 5, api.ErrWork},
		{[]api.Work{work(api.Scrapped, 1)}, 0, api.OK}, {[]api.Work{work(api.Scrapped, 0)}, 4, api.ErrWork}, {[]api.Work{work(api.Scrapped, 1), work(api.Scrapped, 1)}, 5, api.ErrWork},
		{[]api.Work{work(api.Scrapped, 1), work(api.Taken, 1)}, 5, api.ErrWork},
		{[]api.Work{work(api.Scrapped, 1), work(api.Taken, 0), work(api.Fitted, 1, 0, 0)}, 6, api.ErrWork}, {[]api.Work{work(api.Scrapped, 1, 1)}, 4, api.ErrWork}, {[]api.Work{work(api.Scrapped, 4)}, 4, api.ErrWork},
		{[]api.Work{work(0)}, 4, api.ErrWork}, {[]api.Work{work(7)}, 4, api.ErrWork}, {[]api.Work{work(-1)}, 4, api.ErrWork}, {[]api.Work{work(math.MaxInt, math.MinInt, math.MaxInt)}, 4, api.ErrWork},
		{slices.Repeat([]api.Work{work(api.Flown, 0, 0, 0)}, 196), 0, api.OK},
		{slices.Repeat([]api.Work{work(0)}, 197), 0, api.ErrMany},
	} {
		if at, e := Check(example(), works(c.more...)); at != c.at || e != c.e {
			t.Errorf("%d: Check = %d, %d", i, at, e)
		}
	}
	r := example()
	r.Parts[1].Known = false
	if at, e := Check(r, works(work(api.Taken, 0), work(api.Fitted, 1, 0, 0))); at != 5 || e != api.ErrWork {
		t.Errorf("Check of a part without a history = %d, %d", at, e)
	}
	r = example()
	r.Parts[0].Hours = 101
	if at, e := Check(r, works()); at != 3 || e != api.ErrWork {
		t.Errorf("Check of a part that came too old = %d, %d", at, e)
	}
	if at, e := Check(r, append(works()[:3], work(api.Flown, 0, 0, 0))); at != 3 || e != api.ErrWork {
		t.Errorf("Check of a flight of no hours = %d, %d", at, e)
	}
	empty := api.Register{Machines: 1}
	if at, e := Check(empty, []api.Work{work(api.Flown, 0, 100, 100)}); at != 0 || e != api.OK {
		t.Errorf("Check of a machine without places = %d, %d", at, e)
	}
}

func TestP9_1UsedWhereLeft(t *testing.T) {
	if l, e := Used(example(), works()); !slices.Equal(l, [][2]int{{94, 13}, {0, 0}, {4, 3}, {4, 3}}) || e != api.OK {
		t.Errorf("Used = %v, %d", l, e)
	}
	if l, e := Where(example(), works(work(api.Taken, 2), work(api.Scrapped, 1))); !slices.Equal(l, [][2]int{{0, 0}, {-2, -2}, {-1, -1}, {0, 1}}) || e != api.OK {
		t.Errorf("Where = %v, %d", l, e)
	}
	for _, c := range []struct {
		l                   []api.Work
		part, hours, cycles int
	}{
		{works(), 0, 6, 37}, {works(), 2, 996, 997}, {works(work(api.Issued, 0)), 2, 5, 997}, {works(work(api.Issued, 0), work(api.Flown, 0, 4, 1)), 2, 1, 996},
		{works(work(api.Issued, 0), work(api.Flown, 0, 4, 1), work(api.Checked, 2, 0)), 2, 992, 996}, {works(work(api.Issued, 0)), 1, 100, 50},
	} {
		if hours, cycles, e := Left(example(), c.l, c.part); hours != c.hours || cycles != c.cycles || e != api.OK {
			t.Errorf("Left of %d behind %v = %d, %d, %d", c.part, c.l, hours, cycles, e)
		}
	}
	old := example()
	old.Parts[1].Hours, old.Parts[1].Cycles = 101, 51
	if hours, cycles, e := Left(old, nil, 1); hours != 0 || cycles != 0 || e != api.OK {
		t.Errorf("Left of a part that came too old = %d, %d, %d", hours, cycles, e)
	}
	for _, part := range []int{-1, 4, math.MaxInt} {
		if hours, cycles, e := Left(example(), works(), part); hours != 0 || cycles != 0 || e != api.ErrArg {
			t.Errorf("Left of %d = %d, %d, %d", part, hours, cycles, e)
		}
	}
}

func TestP9_2LacksAndLongest(t *testing.T) {
	taken := works(work(api.Taken, 0))
	if l, e := Lacks(example(), taken, 0); !slices.Equal(l, [][2]int{{0, 0}}) || e != api.OK {
		t.Errorf("Lacks = %v, %d", l, e)
	}
	if l, e := Lacks(example(), nil, 0); !slices.Equal(l, [][2]int{{0, 0}, {1, 0}, {1, 1}}) || e != api.OK {
		t.Errorf("Lacks of an empty machine = %v, %d", l, e)
	}
	if l, e := Lacks(example(), works(), 0); len(l) != 0 || e != api.OK {
		t.Errorf("Lacks of a complete machine = %v, %d", l, e)
	}
	for _, c := range []struct {
		l            []api.Work
		cycles, want int
		e            api.Errno
	}{
		{works(), 2, 6, api.OK}, {works(), 37, 6, api.OK}, {works(), 38, 0, api.ErrNone}, {taken, 0, 0, api.ErrNone}, {works(work(api.Flown, 0, 6, 0)), 0, 0, api.OK},
		{works(work(api.Taken, 0), work(api.Fitted, 1, 0, 0)), 50, 100, api.OK}, {works(work(api.Issued, 0), work(api.Flown, 0, 2, 0)), 0, 3, api.OK},
		{works(), -1, 0, api.ErrArg}, {works(), 101, 0, api.ErrArg},
	} {
		if n, e := Longest(example(), c.l, 0, c.cycles); n != c.want || e != c.e {
			t.Errorf("Longest with %d cycles behind %v = %d, %d", c.cycles, c.l, n, e)
		}
	}
	full := append(works(), slices.Repeat([]api.Work{work(api.Flown, 0, 0, 0)}, 196)...)
	if n, e := Longest(example(), full, 0, 0); n != 6 || e != api.OK {
		t.Errorf("Longest behind all works there may be = %d, %d", n, e)
	}
	for _, m := range []int{-1, 1, math.MaxInt} {
		if l, e := Lacks(example(), works(), m); l != nil || e != api.ErrArg {
			t.Errorf("Lacks of %d = %v, %d", m, l, e)
		}
		if n, e := Longest(example(), works(), m, 0); n != 0 || e != api.ErrArg {
			t.Errorf("Longest of %d = %d, %d", m, n, e)
		}
	}
}

func TestP9_2HistoryAndDue(t *testing.T) {
	for _, c := range []struct {
		l    []api.Work
		part int
		want []api.Stretch
	}{
		{works(work(api.Taken, 0)), 0, []api.Stretch{{From: 0, To: 4, Hours: 4, Cycles: 3}}},
		{works(), 3, []api.Stretch{{Place: 1, From: 2, To: 4, Hours: 4, Cycles: 3}}},
		{works(), 1, nil},
		{works(work(api.Taken, 2), work(api.Taken, 3), work(api.Fitted, 2, 0, 1), work(api.Fitted, 3, 0, 0), work(api.Flown, 0, 1, 2)), 2, []api.Stretch{{From: 1, To: 4, Hours: 4, Cycles: 3}, {Place: 1, From: 6, To: 9, Hours: 1, Cycles: 2}}},
	} {
		if l, e := History(example(), c.l, c.part); !slices.Equal(l, c.want) || e != api.OK {
			t.Errorf("History of %d behind %v = %v, %d", c.part, c.l, l, e)
		}
	}
	if l, e := History(example(), works(), 4); l != nil || e != api.ErrArg {
		t.Errorf("History of no part = %v, %d", l, e)
	}
	for _, c := range []struct {
		l    []api.Work
		want []int
	}{
		{works(work(api.Issued, 0), work(api.Checked, 2, 0)), []int{3}}, {works(), nil}, {works(work(api.Issued, 0)), []int{2, 3}},
		{works(work(api.Issued, 0), work(api.Taken, 2), work(api.Scrapped, 2)), []int{3}},
	} {
		if l, e := Due(example(), c.l, 0); !slices.Equal(l, c.want) || e != api.OK {
			t.Errorf("Due behind %v = %v, %d", c.l, l, e)
		}
	}
	for _, order := range []int{-1, 1, math.MaxInt} {
		if l, e := Due(example(), works(), order); l != nil || e != api.ErrArg {
			t.Errorf("Due of %d = %v, %d", order, l, e)
		}
	}
}

func TestP9_5And13Suspects(t *testing.T) {
	places := [][2]int{{0, 0}, {1, 0}, {1, 1}}
	for i, c := range []struct {
		l               []api.Work
		places, changed [][2]int
		want            []int
	}{
		{works(), places, [][2]int{{0, 1}, {2, 1}}, []int{2}},
		{works(), places, [][2]int{{0, 0}}, []int{0}},
		{works(), places, [][2]int{{0, 0}, {0, 1}}, nil},
		{works(), places, nil, nil},
		{works(work(api.Taken, 2)), places, [][2]int{{0, 1}, {2, 1}}, nil},
		{works(work(api.Taken, 2), work(api.Taken, 3), work(api.Fitted, 3, 0, 0), work(api.Fitted, 2, 0, 1)), places, [][2]int{{0, 1}, {2, 1}, {3, 0}, {4, 0}, {5, 2}, {6, 2}}, []int{0, 2, 3}},
		{works(), [][2]int{{1, 1}, {1, 1}}, [][2]int{{0, 0}, {1, 0}, {2, 1}, {3, 1}}, []int{3}},
	} {
		if l, e := Suspects(example(), c.l, 0, c.places, c.changed); !slices.Equal(l, c.want) || e != api.OK {
			t.Errorf("%d: Suspects = %v, %d", i, l, e)
		}
	}
	for i, c := range []struct {
		machine         int
		places, changed [][2]int
	}{
		{1, places, nil}, {0, nil, nil}, {0, slices.Repeat(places, 5), nil}, {0, [][2]int{{2, 0}}, nil}, {0, [][2]int{{-1, 0}}, nil}, {0, [][2]int{{1, 2}}, nil}, {0, [][2]int{{1, -1}}, nil},
		{0, places, [][2]int{{0, 3}}}, {0, places, [][2]int{{8, 0}}}, {0, places, [][2]int{{1, 0}, {0, 0}}},
	} {
		if l, e := Suspects(example(), works(), c.machine, c.places, c.changed); l != nil || e != api.ErrArg {
			t.Errorf("%d: Suspects = %v, %d", i, l, e)
		}
	}
}

func TestErrorsInTheirOrder(t *testing.T) {
	for name, f := range map[string]func(r api.Register, l []api.Work) api.Errno{
		"Used":     func(r api.Register, l []api.Work) api.Errno { _, e := Used(r, l); return e },
		"Where":    func(r api.Register, l []api.Work) api.Errno { _, e := Where(r, l); return e },
		"Left":     func(r api.Register, l []api.Work) api.Errno { _, _, e := Left(r, l, -1); return e },
		"Lacks":    func(r api.Register, l []api.Work) api.Errno { _, e := Lacks(r, l, -1); return e },
		"Longest":  func(r api.Register, l []api.Work) api.Errno { _, e := Longest(r, l, -1, -1); return e },
		"History":  func(r api.Register, l []api.Work) api.Errno { _, e := History(r, l, -1); return e },
		"Due":      func(r api.Register, l []api.Work) api.Errno { _, e := Due(r, l, -1); return e },
		"Suspects": func(r api.Register, l []api.Work) api.Errno { _, e := Suspects(r, l, -1, nil, nil); return e },
	} {
		if e := f(api.Register{Machines: -1}, make([]api.Work, 201)); e != api.ErrRegister {
			t.Errorf("%s: %d", name, e)
		}
		if e := f(example(), make([]api.Work, 201)); e != api.ErrMany {
			t.Errorf("%s: %d", name, e)
		}
		if e := f(example(), make([]api.Work, 200)); e != api.ErrWork {
			t.Errorf("%s: %d", name, e)
		}
	}
}

// model finds all from the list of works itself, over and over.
type model struct {
	r api.Register
	l []api.Work
}

// place returns where a part is behind the first n works.
func (m model) place(part, n int) [2]int {
	at := [2]int{-1, -1}
	for _, w := range m.l[:n] {
		switch {
		case w.Kind == api.Fitted && w.A == part:
			at = [2]int{w.B, w.C}
		case w.Kind == api.Taken && w.A == part:
			at = [2]int{-1, -1}
		case w.Kind == api.Scrapped && w.A == part:
			at = [2]int{-2, -2}
		}
	}
	return at
}

// flown returns what a part has flown in the works from one on, before another one.
func (m model) flown(part, from, to int) (hours, cycles int) {
	for i := from; i < to; i++ {
		if w := m.l[i]; w.Kind == api.Flown && m.place(part, i)[0] == w.A {
			hours, cycles = hours+w.B, cycles+w.C
		}
	}
	return hours, cycles
}

func (m model) find(w api.Work) int { return slices.Index(m.l, w) }

// beyond reports whether a part is beyond something behind the first n works.
func (m model) beyond(part, n int) bool {
	p := m.r.Parts[part]
	hours, cycles := m.flown(part, 0, n)
	if p.Hours+hours > m.r.Kinds[p.Kind].Hours || p.Cycles+cycles > m.r.Kinds[p.Kind].Cycles {
		return true
	}
	for o, order := range m.r.Orders {
		issued, checked := m.find(work(api.Issued, o)), m.find(work(api.Checked, part, o))
		if order.Kind != p.Kind || issued < 0 || issued >= n || checked >= 0 && checked < n {
			continue
		}
		if hours, _ := m.flown(part, issued, n); hours > order.Within {
			return true
		}
	}
	return false
}

// right reports whether the last work is possible behind the others.
func (m model) right() bool {
	n := len(m.l) - 1
	w := m.l[n]
	before := model{m.r, m.l[:n]}
	is := func(k int, of int) bool { return k >= 0 && k < of }
	part := func() bool { return is(w.A, len(m.r.Parts)) }
	switch w.Kind {
	case api.Flown:
		if !is(w.A, m.r.Machines) || !is(w.B, 101) || !is(w.C, 101) {
			return false
		}
		for kind, k := range m.r.Kinds {
			for place := range k.Places {
				there := false
				for p, x := range m.r.Parts {
					there = there || x.Kind == kind && m.place(p, n) == [2]int{w.A, place}
				}
				if !there {
					return false
				}
			}
		}
		for p := range m.r.Parts {
			if m.place(p, n)[0] == w.A && m.beyond(p, n+1) {
				return false
			}
		}
		return true
	case api.Fitted:
		if !part() || !is(w.B, m.r.Machines) || !is(w.C, m.r.Kinds[m.r.Parts[w.A].Kind].Places) || !m.r.Parts[w.A].Known || m.place(w.A, n) != [2]int{-1, -1} {
			return false
		}
		for p, x := range m.r.Parts {
			if x.Kind == m.r.Parts[w.A].Kind && m.place(p, n) == [2]int{w.B, w.C} {
				return false
			}
		}
		return true
	case api.Taken:
		return part() && w.B == 0 && w.C == 0 && m.place(w.A, n)[0] >= 0
	case api.Issued:
		return is(w.A, len(m.r.Orders)) && w.B == 0 && w.C == 0 && before.find(w) < 0
	case api.Checked:
		return part() && is(w.B, len(m.r.Orders)) && w.C == 0 && before.find(work(api.Issued, w.B)) >= 0 && m.r.Orders[w.B].Kind == m.r.Parts[w.A].Kind && before.find(w) < 0
	case api.Scrapped:
		return part() && w.B == 0 && w.C == 0 && m.place(w.A, n) == [2]int{-1, -1}
	}
	return false
}

func random(r *rand.Rand) api.Register {
	x := api.Register{Machines: 1 + r.Intn(2)}
	for range 1 + r.Intn(2) {
		x.Kinds = append(x.Kinds, api.Kind{Hours: 10 + r.Intn(20), Cycles: 10 + r.Intn(20), Places: 1 + r.Intn(2)})
	}
	for range 4 + r.Intn(5) {
		x.Parts = append(x.Parts, api.Part{Kind: r.Intn(len(x.Kinds)), Hours: r.Intn(12), Cycles: r.Intn(12), Known: r.Intn(8) > 0})
	}
	for range r.Intn(3) {
		x.Orders = append(x.Orders, api.Order{Kind: r.Intn(len(x.Kinds)), Within: r.Intn(10)})
	}
	return x
}

func randomWork(r *rand.Rand) api.Work {
	switch kind := 1 + r.Intn(6); kind {
	case api.Flown:
		return work(kind, r.Intn(2), r.Intn(6), r.Intn(6))
	case api.Fitted:
		return work(kind, r.Intn(9), r.Intn(2), r.Intn(2))
	case api.Checked:
		return work(kind, r.Intn(9), r.Intn(2))
	case api.Scrapped:
		return work(kind, r.Intn(40))
	default:
		return work(kind, r.Intn(9))
	}
}

// TestP9_6To9AnyWorks grows lists of right works, and compares with the model at each step.
func TestP9_6To9AnyWorks(t *testing.T) {
	r := rand.New(rand.NewSource(1))
	kinds := map[int]int{}
	for range 60 {
		m := model{r: random(r)}
		for range 150 {
			w := randomWork(r)
			next := model{m.r, append(slices.Clone(m.l), w)}
			at, e := Check(next.r, next.l)
			if next.right() != (e == api.OK) || e != api.OK && (at != len(m.l) || e != api.ErrWork) {
				t.Fatalf("Check of %v behind %v = %d, %d", w, m.l, at, e)
			}
			if e == api.OK {
				kinds[w.Kind]++
				m = next
			}
		}
		testRight(t, m)
	}
	for kind := api.Flown; kind <= api.Scrapped; kind++ {
		if kinds[kind] < 20 {
			t.Errorf("only %d works of the kind %d", kinds[kind], kind)
		}
	}
}

func testRight(t *testing.T, m model) {
	used, _ := Used(m.r, m.l)
	where, _ := Where(m.r, m.l)
	n := len(m.l)
	inPlaces := map[[3]int][2]int{}
	for part, p := range m.r.Parts {
		hours, cycles := m.flown(part, 0, n)
		if used[part] != [2]int{p.Hours + hours, p.Cycles + cycles} || where[part] != m.place(part, n) {
			t.Fatalf("Used = %v, Where = %v behind %v", used, where, m.l)
		}
		history, e := History(m.r, m.l, part)
		for _, s := range history {
			hours, cycles = hours-s.Hours, cycles-s.Cycles
			key := [3]int{p.Kind, s.Machine, s.Place}
			inPlaces[key] = [2]int{inPlaces[key][0] + s.Hours, inPlaces[key][1] + s.Cycles}
			if m.l[s.From] != work(api.Fitted, part, s.Machine, s.Place) || s.To < n && m.l[s.To] != work(api.Taken, part) {
				t.Fatalf("History of %d = %v behind %v", part, history, m.l)
			}
		}
		if hours != 0 || cycles != 0 || e != api.OK {
			t.Fatalf("History of %d = %v, %d: %d, %d are missing", part, history, e, hours, cycles)
		}
		if where[part][0] >= 0 && used[part] != [2]int{p.Hours, p.Cycles} && (m.beyond(part, n) || !p.Known) {
			t.Fatalf("the part %d has flown %v", part, used[part])
		}
		testLeft(t, m, part)
	}
	for machine := range m.r.Machines {
		all := [2]int{}
		for _, w := range m.l {
			if w.Kind == api.Flown && w.A == machine {
				all = [2]int{all[0] + w.B, all[1] + w.C}
			}
		}
		for kind, k := range m.r.Kinds {
			for place := range k.Places {
				if inPlaces[[3]int{kind, machine, place}] != all {
					t.Fatalf("the machine %d has flown %v, but %v in %d, %d", machine, all, inPlaces, kind, place)
				}
			}
		}
		testLongest(t, m, machine)
	}
}

// testLeft lets a part fly alone until it is beyond something.
func testLeft(t *testing.T, m model, part int) {
	hours, cycles, e := Left(m.r, m.l, part)
	p := m.r.Parts[part]
	wantHours, wantCycles := 0, 0
	usedHours, usedCycles := m.flown(part, 0, len(m.l))
	wantCycles = max(0, m.r.Kinds[p.Kind].Cycles-p.Cycles-usedCycles)
	wantHours = m.r.Kinds[p.Kind].Hours - p.Hours - usedHours
	for o, order := range m.r.Orders {
		issued := m.find(work(api.Issued, o))
		if order.Kind == p.Kind && issued >= 0 && m.find(work(api.Checked, part, o)) < 0 {
			since, _ := m.flown(part, issued, len(m.l))
			wantHours = min(wantHours, order.Within-since)
		}
	}
	if hours != max(0, wantHours) || cycles != wantCycles || e != api.OK {
		t.Fatalf("Left of %d = %d, %d, %d, want %d, %d", part, hours, cycles, e, wantHours, wantCycles)
	}
}

func testLongest(t *testing.T, m model, machine int) {
	for _, cycles := range []int{0, 3, 9} {
		want := -1
		for hours := range 101 {
			if (model{m.r, append(slices.Clone(m.l), work(api.Flown, machine, hours, cycles))}).right() {
				want = hours
			}
		}
		n, e := Longest(m.r, m.l, machine, cycles)
		if want >= 0 && (n != want || e != api.OK) || want < 0 && (n != 0 || e != api.ErrNone) {
			t.Fatalf("Longest of %d with %d cycles behind %v = %d, %d, want %d", machine, cycles, m.l, n, e, want)
		}
	}
}

func TestP9_8ASwapKeepsEverything(t *testing.T) {
	used, _ := Used(example(), works())
	hours, cycles, _ := Left(example(), works(), 2)
	swapped := works(work(api.Taken, 2), work(api.Taken, 3), work(api.Fitted, 3, 0, 0), work(api.Fitted, 2, 0, 1))
	if l, e := Used(example(), swapped); !slices.Equal(l, used) || e != api.OK {
		t.Errorf("Used behind a swap = %v, %d", l, e)
	}
	if h, c, e := Left(example(), swapped, 2); h != hours || c != cycles || e != api.OK {
		t.Errorf("Left behind a swap = %d, %d, %d", h, c, e)
	}
	for n := range swapped {
		if at, e := Check(example(), swapped[:n]); at != 0 || e != api.OK {
			t.Errorf("Check of the first %d works = %d, %d", n, at, e)
		}
	}
}

// A machine without places is complete: only the numbers of a flight decide.
func TestFlightsOfAMachineWithoutPlaces(t *testing.T) {
	r := api.Register{Kinds: []api.Kind{{Hours: 1, Cycles: 1}}, Machines: 1}
	for _, c := range []struct {
		w api.Work
		e api.Errno
	}{{work(api.Flown, 0, 100, 100), api.OK}, {work(api.Flown, 0, 101, 0), api.ErrWork}, {work(api.Flown, 0, 0, 101), api.ErrWork}, {work(api.Flown, 1, 1, 1), api.ErrWork}, {work(api.Flown, 2, 1, 1), api.ErrWork}} {
		if at, e := Check(r, []api.Work{c.w}); at != 0 || e != c.e {
			t.Errorf("Check of %v = %d, %d", c.w, at, e)
		}
	}
	if n, e := Longest(r, nil, 0, 100); n != 100 || e != api.OK {
		t.Errorf("Longest = %d, %d", n, e)
	}
	for i, x := range []api.Register{
		{Kinds: slices.Repeat([]api.Kind{{Hours: 1, Cycles: 1}}, 7)}, {Kinds: r.Kinds, Parts: make([]api.Part, 25)}, {Kinds: r.Kinds, Orders: make([]api.Order, 7)},
	} {
		if _, e := Check(x, nil); e != api.ErrRegister {
			t.Errorf("%d: Check = %d", i, e)
		}
	}
}

// The last order of all that there may be holds like the first one, and cells may be of the last sensor.
func TestTheLastOrderAndSensor(t *testing.T) {
	r := example()
	r.Orders = slices.Repeat(r.Orders, 6)
	l := works(work(api.Issued, 5), work(api.Checked, 2, 5), work(api.Flown, 0, 5, 0))
	if due, e := Due(r, l, 5); !slices.Equal(due, []int{3}) || e != api.OK {
		t.Errorf("Due = %v, %d", due, e)
	}
	if hours, _, e := Left(r, l, 3); hours != 0 || e != api.OK {
		t.Errorf("Left = %d, %d", hours, e)
	}
	if s, e := Suspects(r, works(), 0, [][2]int{{1, 1}}, [][2]int{{0, 0}, {7, 0}}); !slices.Equal(s, []int{3}) || e != api.OK {
		t.Errorf("Suspects = %v, %d", s, e)
	}
}
