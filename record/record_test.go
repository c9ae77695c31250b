package record

import (
	"math"
	"math/rand"
	"slices"
	"testing"

	"swashplate/api"
	"swashplate/parts"
	"swashplate/samples"
)

func span(low, high int) api.Span { return api.Span{Low: low, High: high} }

// example is the layout L of the document.
func example() api.Layout { return samples.Layout() }

func frames(more ...[]int) [][]int { return append(samples.Frames(), more...) }

// marks are frames with the field 2 as told.
func marks(is ...int) [][]int {
	var l [][]int
	for i, n := range is {
		l = append(l, []int{100 * (i%4 + 1), 0, 0, n})
	}
	return l
}

func event(hold int, conditions ...api.Condition) api.Event {
	return api.Event{Conditions: conditions, Hold: hold}
}

func atLeast(field, limit int) api.Condition {
	return api.Condition{Field: field, Limit: limit, Above: true}
}

func atMost(field, limit int) api.Condition { return api.Condition{Field: field, Limit: limit} }

func TestP12_1Check(t *testing.T) {
	great := api.Layout{Words: 32, Sync: [4]int{0, 4095, 1, 2}}
	for i := range 16 {
		great.Fields = append(great.Fields, api.Bits{Word: 16 + i, Size: 12, Signed: true, Num: 1000 - 2000*(i%2), Den: 1000, Add: 1000000 - 2000000*(i%2), Every: 4, Phase: 3})
	}
	for i, l := range []api.Layout{example(), great, {Words: 2, Sync: [4]int{0, 1, 2, 3}}} {
		if e := Check(l); e != api.OK {
			t.Errorf("%d: Check = %d", i, e)
		}
	}
	for i, change := range []func(l *api.Layout){
		func(l *api.Layout) { l.Fields[1].Word, l.Fields[1].Bit = 1, 8 },
		func(l *api.Layout) { l.Fields[0].Every, l.Fields[0].Phase, l.Fields[1].Word = 2, 0, 1 },
		func(l *api.Layout) {
			l.Fields[1].Every, l.Fields[1].Phase, l.Fields[2].Word, l.Fields[2].Bit, l.Fields[2].Every = 4, 1, 2, 4, 2
		},
		func(l *api.Layout) { l.Fields[1].Bit, l.Fields[1].Size = 11, 1 },
	} {
		l := example()
		change(&l)
		if e := Check(l); e != api.OK {
			t.Errorf("right layout %d: Check = %d", i, e)
		}
	}
	for i, change := range []func(l *api.Layout){
		func(l *api.Layout) { l.Words = 1 }, func(l *api.Layout) { l.Words = 33 }, func(l *api.Layout) { l.Words = 3 },
		func(l *api.Layout) { l.Sync[3] = 100 }, func(l *api.Layout) { l.Sync[3] = 4096 }, func(l *api.Layout) { l.Sync[3] = -1 },
		func(l *api.Layout) {
			l.Words, l.Fields = 32, slices.Repeat([]api.Bits{{Word: 1, Size: 1, Den: 1, Every: 1}}, 17)
		},
		func(l *api.Layout) { l.Fields[1].Word = 0 }, func(l *api.Layout) { l.Fields[1].Word = 4 }, func(l *api.Layout) { l.Fields[1].Bit = -1 }, func(l *api.Layout) { l.Fields[1].Bit = 10 }, func(l *api.Layout) { l.Fields[1].Bit = 12 },
		func(l *api.Layout) { l.Fields[1].Size = 0 }, func(l *api.Layout) { l.Fields[1].Size = 9 }, func(l *api.Layout) { l.Fields[1].Size = math.MaxInt },
		func(l *api.Layout) { l.Fields[1].Num = 1001 }, func(l *api.Layout) { l.Fields[1].Num = -1001 }, func(l *api.Layout) { l.Fields[1].Den = 0 }, func(l *api.Layout) { l.Fields[1].Den = 1001 },
		func(l *api.Layout) { l.Fields[1].Add = 1000001 }, func(l *api.Layout) { l.Fields[1].Add = -1000001 },
		func(l *api.Layout) { l.Fields[1].Every = 3 }, func(l *api.Layout) { l.Fields[1].Every = 0 }, func(l *api.Layout) { l.Fields[1].Every = 8 }, func(l *api.Layout) { l.Fields[1].Phase = 2 }, func(l *api.Layout) { l.Fields[1].Phase = -1 },
		func(l *api.Layout) { l.Fields[1].Word = 1 }, func(l *api.Layout) { l.Fields[1].Word, l.Fields[1].Bit = 1, 7 },
		func(l *api.Layout) {
			l.Fields[1].Every, l.Fields[1].Phase, l.Fields[2].Word, l.Fields[2].Bit, l.Fields[2].Every, l.Fields[2].Phase = 4, 1, 2, 6, 2, 1
		},
	} {
		l := example()
		change(&l)
		if e := Check(l); e != api.ErrLayout {
			t.Errorf("%d: Check = %d", i, e)
		}
	}
}

func TestP12_1GoodAndSlips(t *testing.T) {
	if l, e := Good(example(), frames([]int{7, 0, 0, 0})); !slices.Equal(l, []int{0, 1, 2}) || e != api.OK {
		t.Errorf("Good = %v, %d", l, e)
	}
	if l, e := Good(example(), [][]int{{100, 0, 0}, {100, 0, 0, 0, 0}, {100, 0, 0, 4096}, {100, -1, 0, 0}, nil, {400, 4095, 4095, 4095}}); !slices.Equal(l, []int{5}) || e != api.OK {
		t.Errorf("Good of bad ones = %v, %d", l, e)
	}
	bad := []int{7, 0, 0, 0}
	of := func(sub int) []int { return []int{100 * (sub + 1), 0, 0, 0} }
	for i, c := range []struct {
		l    [][]int
		want []int
	}{
		{[][]int{of(0), of(2)}, []int{1}}, {frames(), nil}, {[][]int{of(2), of(3), of(0), of(1)}, nil}, {[][]int{of(0), bad, of(2)}, nil}, {[][]int{of(0), bad, of(1)}, []int{2}},
		{[][]int{bad, of(3), bad, bad, bad, of(3)}, nil}, {[][]int{of(0), of(0), of(1), of(1), of(2)}, []int{1, 3}}, {nil, nil}, {[][]int{of(3), of(2), of(1)}, []int{1, 2}},
	} {
		if l, e := Slips(example(), c.l); !slices.Equal(l, c.want) || e != api.OK {
			t.Errorf("%d: Slips = %v, %d", i, l, e)
		}
	}
}

func TestP12_2And3ReadAndPack(t *testing.T) {
	if l, e := Pack(example(), 1, []int{-2, 3, 1}); !slices.Equal(l, []int{200, 254, 48, 1}) || e != api.OK {
		t.Errorf("Pack = %v, %d", l, e)
	}
	if l, e := Pack(example(), 2, []int{127, 0, 0}); !slices.Equal(l, []int{300, 127, 0, 0}) || e != api.OK {
		t.Errorf("Pack of the subframe 2 = %v, %d", l, e)
	}
	if l, e := Pack(example(), 3, []int{-128, 7, 1}); !slices.Equal(l, []int{400, 128, 112, 1}) || e != api.OK {
		t.Errorf("Pack of the subframe 3 = %v, %d", l, e)
	}
	for _, c := range []struct {
		subframe int
		raw      []int
	}{{-1, []int{0, 0, 0}}, {4, []int{0, 0, 0}}, {1, []int{0, 0}}, {1, []int{0, 0, 0, 0}}, {1, nil}, {1, []int{128, 0, 0}}, {1, []int{-129, 0, 0}}, {1, []int{0, 8, 0}}, {1, []int{0, -1, 0}}, {0, []int{0, 1, 0}}, {2, []int{0, 3, 0}}, {1, []int{0, 0, 2}}, {1, []int{math.MinInt, 0, 0}}} {
		if l, e := Pack(example(), c.subframe, c.raw); l != nil || e != api.ErrArg {
			t.Errorf("Pack of %v = %v, %d", c, l, e)
		}
	}
	for i, want := range [][][2]int{{{0, 24}, {1, 18}, {2, 26}}, {{1, 15}}, {{0, 0}, {1, 1}, {2, 0}}} {
		if l, e := Read(example(), frames(), i); !slices.Equal(l, want) || e != api.OK {
			t.Errorf("Read of %d = %v, %d", i, l, e)
		}
	}
	if l, e := Read(example(), frames([]int{9, 0, 0, 0}, []int{400, 0, 16, 0}), 1); !slices.Equal(l, [][2]int{{1, 15}, {4, 5}}) || e != api.OK {
		t.Errorf("Read with a bad frame = %v, %d", l, e)
	}
	for _, field := range []int{-1, 3, math.MaxInt} {
		if l, e := Read(example(), frames(), field); l != nil || e != api.ErrArg {
			t.Errorf("Read of %d = %v, %d", field, l, e)
		}
	}
}

func TestP12_4EventsAndAll(t *testing.T) {
	odd := [][]int{{100, 0, 0, 0}, {200, 0, 48, 0}, {300, 0, 0, 0}, {400, 0, 16, 0}, {100, 0, 0, 0}, {7, 0, 0, 0}, {300, 0, 0, 0}}
	for i, c := range []struct {
		l    [][]int
		x    api.Event
		want []api.Span
	}{
		{frames(), event(1, atLeast(0, 12)), []api.Span{span(0, 0), span(2, 2)}},
		{frames(), event(1, atLeast(0, 12), atLeast(1, 10)), []api.Span{span(2, 2)}},
		{frames(), event(1, atMost(0, 9)), []api.Span{span(1, 1)}},
		{frames(), event(2, atLeast(0, 12)), nil},
		{frames(), event(3, atLeast(0, 9)), []api.Span{span(0, 2)}},
		{frames(), event(1, atLeast(0, 13)), []api.Span{span(2, 2)}},
		{frames(), event(1, atMost(0, 12)), []api.Span{span(0, 1)}},
		{odd, event(1, atLeast(1, 15)), []api.Span{span(1, 2)}},
		{odd, event(1, atLeast(1, 5)), []api.Span{span(1, 4)}},
		{odd, event(1, atMost(1, 5)), []api.Span{span(3, 4)}},
		{odd, event(1, atMost(1, 100), atLeast(2, 0)), []api.Span{span(1, 4)}},
		{append(odd[:5:5], []int{7, 0, 0, 0}), event(1, atMost(1, 100)), []api.Span{span(1, 4)}},
		{nil, event(1, atMost(1, 100)), nil},
		{marks(1, 1, 1, 0, 1), event(1, atLeast(2, 1)), []api.Span{span(0, 2), span(4, 4)}},
	} {
		if l, e := Events(example(), c.l, c.x); !slices.Equal(l, c.want) || e != api.OK {
			t.Errorf("%d: Events = %v, %d", i, l, e)
		}
	}
	x := []api.Event{event(1, atLeast(2, 1)), event(1, atLeast(0, 12)), event(1, atMost(0, 9))}
	if l, e := All(example(), frames(), x); !slices.Equal(l, []api.Found{{Event: 1, Frames: span(0, 0)}, {Event: 0, Frames: span(1, 1)}, {Event: 2, Frames: span(1, 1)}, {Event: 1, Frames: span(2, 2)}}) || e != api.OK {
		t.Errorf("All = %v, %d", l, e)
	}
	if l, e := All(example(), frames(), nil); len(l) != 0 || e != api.OK {
		t.Errorf("All of none = %v, %d", l, e)
	}
	if l, e := All(example(), frames(), slices.Repeat(x[:1], 8)); len(l) != 8 || l[7].Event != 7 || e != api.OK {
		t.Errorf("All of eight = %v, %d", l, e)
	}
	if l, e := All(example(), frames(), make([]api.Event, 9)); l != nil || e != api.ErrMany {
		t.Errorf("All of nine = %v, %d", l, e)
	}
	for i, x := range []api.Event{
		{Hold: 1}, event(1, slices.Repeat([]api.Condition{atLeast(0, 0)}, 5)...), event(1, atLeast(3, 0)), event(1, atLeast(-1, 0)), event(1, atLeast(0, 1000001)), event(1, atMost(0, -1000001)),
		event(0, atLeast(0, 0)), event(101, atLeast(0, 0)), event(1, atLeast(0, math.MinInt)),
	} {
		if l, e := Events(example(), frames(), x); l != nil || e != api.ErrEvent {
			t.Errorf("%d: Events = %v, %d", i, l, e)
		}
		if l, e := All(example(), frames(), []api.Event{event(100, atLeast(0, 1000000)), x}); l != nil || e != api.ErrEvent {
			t.Errorf("%d: All = %v, %d", i, l, e)
		}
		if l, e := Flights(example(), frames(), x, -1, 0); l != nil || e != api.ErrEvent {
			t.Errorf("%d: Flights = %v, %d", i, l, e)
		}
	}
}

func TestP12_5Peak(t *testing.T) {
	if n, v, e := Peak(example(), frames(), 0); n != 2 || v != 26 || e != api.OK {
		t.Errorf("Peak = %d, %d, %d", n, v, e)
	}
	if n, v, e := Peak(example(), marks(0, 1, 1), 2); n != 1 || v != 1 || e != api.OK {
		t.Errorf("Peak of two = %d, %d, %d", n, v, e)
	}
	if n, v, e := Peak(example(), frames()[:1], 1); n != 0 || v != 0 || e != api.ErrNone {
		t.Errorf("Peak of no sample = %d, %d, %d", n, v, e)
	}
	low := example()
	low.Fields[0].Add = -100
	if n, v, e := Peak(low, frames(), 0); n != 2 || v != -194 || e != api.OK {
		t.Errorf("Peak below 0 = %d, %d, %d", n, v, e)
	}
}

func TestP12_6Flights(t *testing.T) {
	x := event(1, atLeast(2, 1))
	flown := func(machine, hours int) api.Work { return api.Work{Kind: api.Flown, A: machine, B: hours, C: 1} }
	for i, c := range []struct {
		l             [][]int
		machine, hour int
		want          []api.Work
		e             api.Errno
	}{
		{marks(1, 1, 1, 0, 1), 0, 2, []api.Work{flown(0, 2), flown(0, 1)}, api.OK}, {marks(1, 1, 1, 0, 1), 3, 3, []api.Work{flown(3, 1), flown(3, 1)}, api.OK}, {marks(0, 0), 0, 1, nil, api.OK},
		{marks(slices.Repeat([]int{1}, 200)...), 0, 2, []api.Work{flown(0, 100)}, api.OK}, {marks(slices.Repeat([]int{1}, 200)...), 0, 200, []api.Work{flown(0, 1)}, api.OK},
		{marks(append(slices.Repeat([]int{1}, 100), 0)...), 0, 1, []api.Work{flown(0, 100)}, api.OK}, {marks(slices.Repeat([]int{1}, 101)...), 0, 1, nil, api.ErrMany},
		{marks(slices.Repeat([]int{1}, 101)...), -1, 1, nil, api.ErrArg}, {marks(1), 4, 1, nil, api.ErrArg}, {marks(1), 0, 0, nil, api.ErrArg}, {marks(1), 0, 201, nil, api.ErrArg},
	} {
		if l, e := Flights(example(), c.l, x, c.machine, c.hour); !slices.Equal(l, c.want) || e != c.e {
			t.Errorf("%d: Flights = %v, %d", i, l, e)
		}
	}
}

func TestP12_7And8WearAndShake(t *testing.T) {
	steps := [][2]int{{2, 1}, {5, 10}}
	want, _ := parts.Damage([]int{24, 18, 26}, steps)
	if n, e := Wear(example(), frames(), 0, steps); n != want || want == 0 || e != api.OK {
		t.Errorf("Wear = %d, %d, want %d", n, e, want)
	}
	if n, e := Wear(example(), frames(), 0, slices.Repeat(steps, 5)); n != 0 || e != api.ErrArg {
		t.Errorf("Wear with too many steps = %d, %d", n, e)
	}
	great := example()
	great.Fields[0].Add, great.Fields[0].Den = 1000000, 2
	if n, e := Wear(great, frames(), 0, steps); n != 0 || e != api.ErrArg {
		t.Errorf("Wear of loads that are too great = %d, %d", n, e)
	}
	l := example()
	l.Fields[0] = api.Bits{Word: 1, Size: 8, Signed: true, Num: 1, Den: 1, Every: 1}
	var tape [][]int
	for i, n := range []int{0, 2, 4, 2, 0, 254, 0, 4, 8, 4, 0, 252, 0} {
		mark := 0
		if i%6 == 0 {
			mark = 1
		}
		tape = append(tape, []int{100 * (i%4 + 1), n, 0, mark})
	}
	tape = slices.Insert(tape, 3, []int{7, 9, 9, 9})
	if sums, den, e := Shake(l, tape, 0, 2, 6); !slices.Equal(sums, []int{0, 36, 72, 36, 0, -36}) || den != 12 || e != api.OK {
		t.Errorf("Shake = %v, %d, %d", sums, den, e)
	}
	if sums, den, e := Shake(l, tape, 0, 2, 0); sums != nil || den != 0 || e != api.ErrArg {
		t.Errorf("Shake of no points = %v, %d, %d", sums, den, e)
	}
	if sums, den, e := Shake(l, tape[:4], 0, 2, 6); sums != nil || den != 0 || e != api.ErrVibration {
		t.Errorf("Shake of less than a turn = %v, %d, %d", sums, den, e)
	}
	// Marks that are recorded in other frames than the field do not count; 0 multiplied and added may be a mark.
	l.Fields[0].Every, l.Fields[0].Phase = 2, 0
	l.Fields[2].Add = 5
	rows := [][]int{{100, 3, 0, 0}, {200, 0, 0, 0}, {300, 5, 0, 0}, {400, 0, 0, 0}, {100, 9, 0, 0}}
	if sums, den, e := Shake(l, rows, 0, 2, 1); !slices.Equal(sums, []int{8}) || den != 2 || e != api.OK {
		t.Errorf("Shake of every other frame = %v, %d, %d", sums, den, e)
	}
	l.Fields[2].Every, l.Fields[2].Phase = 2, 1
	if sums, den, e := Shake(l, rows, 0, 2, 1); sums != nil || den != 0 || e != api.ErrVibration {
		t.Errorf("Shake with marks elsewhere = %v, %d, %d", sums, den, e)
	}
	for _, f := range [][2]int{{-1, 2}, {3, 2}, {0, 3}, {0, -1}} {
		if sums, den, e := Shake(l, rows, f[0], f[1], 0); sums != nil || den != 0 || e != api.ErrArg {
			t.Errorf("Shake of %v = %v, %d, %d", f, sums, den, e)
		}
	}
}

func TestErrorsInTheirOrder(t *testing.T) {
	many := make([][]int, 201)
	for name, f := range map[string]func(l api.Layout, frames [][]int) api.Errno{
		"Good":   func(l api.Layout, frames [][]int) api.Errno { _, e := Good(l, frames); return e },
		"Slips":  func(l api.Layout, frames [][]int) api.Errno { _, e := Slips(l, frames); return e },
		"Read":   func(l api.Layout, frames [][]int) api.Errno { _, e := Read(l, frames, -1); return e },
		"Events": func(l api.Layout, frames [][]int) api.Errno { _, e := Events(l, frames, api.Event{}); return e },
		"All":    func(l api.Layout, frames [][]int) api.Errno { _, e := All(l, frames, make([]api.Event, 1)); return e },
		"Peak":   func(l api.Layout, frames [][]int) api.Errno { _, _, e := Peak(l, frames, -1); return e },
		"Flights": func(l api.Layout, frames [][]int) api.Errno {
			_, e := Flights(l, frames, api.Event{}, -1, -1)
			return e
		},
		"Wear":  func(l api.Layout, frames [][]int) api.Errno { _, e := Wear(l, frames, -1, make([][2]int, 9)); return e },
		"Shake": func(l api.Layout, frames [][]int) api.Errno { _, _, e := Shake(l, frames, 0, -1, -1); return e },
	} {
		if e := f(api.Layout{}, many); e != api.ErrLayout {
			t.Errorf("%s: %d", name, e)
		}
		if e := f(example(), many); e != api.ErrMany {
			t.Errorf("%s: %d", name, e)
		}
		want := api.ErrArg
		switch name {
		case "Good", "Slips":
			want = api.OK
		case "Events", "All", "Flights":
			want = api.ErrEvent
		}
		if e := f(example(), many[:200]); e != want {
			t.Errorf("%s: %d", name, e)
		}
	}
	if l, e := Pack(api.Layout{}, -1, nil); l != nil || e != api.ErrLayout {
		t.Errorf("Pack without a layout = %v, %d", l, e)
	}
}

func random(r *rand.Rand) api.Layout {
	l := api.Layout{Words: 3 + r.Intn(4), Sync: [4]int{10, 20, 30, 40}}
	for range 30 {
		every := []int{1, 2, 4}[r.Intn(3)]
		bit := r.Intn(12)
		f := api.Bits{Word: 1 + r.Intn(l.Words-1), Bit: bit, Size: 1 + r.Intn(12-bit), Signed: r.Intn(2) == 0, Num: r.Intn(9) - 4, Den: 1 + r.Intn(4), Add: r.Intn(21) - 10, Every: every, Phase: r.Intn(every)}
		more := l
		more.Fields = append(slices.Clone(l.Fields), f)
		if Check(more) == api.OK && len(more.Fields) <= 6 {
			l = more
		}
	}
	return l
}

// packed returns frames, some of them bad, and the raw numbers that the good ones have (nil for the others).
func packed(t *testing.T, r *rand.Rand, l api.Layout) (frames, raws [][]int) {
	sub := 0
	for range r.Intn(25) {
		if r.Intn(5) == 0 {
			frames, raws = append(frames, []int{10, 1}), append(raws, nil)
			continue
		}
		sub = (sub + 1 + r.Intn(8)/7) % 4
		var raw []int
		for _, f := range l.Fields {
			n := 0
			if sub%f.Every == f.Phase {
				n = r.Intn(1 << f.Size)
				if f.Signed {
					n -= 1 << (f.Size - 1)
				}
			}
			raw = append(raw, n)
		}
		frame, e := Pack(l, sub, raw)
		if e != api.OK || frame[0] != l.Sync[sub] {
			t.Fatalf("Pack = %v, %d", frame, e)
		}
		frames, raws = append(frames, frame), append(raws, raw)
	}
	return frames, raws
}

func TestP12_11And15AllThatIsRecordedIsRead(t *testing.T) {
	r := rand.New(rand.NewSource(1))
	for range 300 {
		l := random(r)
		frames, raws := packed(t, r, l)
		var good []int
		var goodFrames [][]int
		for n, raw := range raws {
			if raw != nil {
				good, goodFrames = append(good, n), append(goodFrames, frames[n])
			}
		}
		if got, e := Good(l, frames); !slices.Equal(got, good) || e != api.OK {
			t.Fatalf("Good = %v, %d, want %v", got, e, good)
		}
		for i, f := range l.Fields {
			var want [][2]int
			for n, raw := range raws {
				if raw != nil && (slices.Index(l.Sync[:], frames[n][0]))%f.Every == f.Phase {
					want = append(want, [2]int{n, f.Add*f.Den + raw[i]*f.Num})
				}
			}
			got, e := Read(l, frames, i)
			if !slices.Equal(got, want) || e != api.OK {
				t.Fatalf("Read = %v, %d, want %v", got, e, want)
			}
			without, _ := Read(l, goodFrames, i)
			if !slices.Equal(values(without), values(got)) {
				t.Fatalf("Read without bad frames = %v, with them %v", without, got)
			}
			steps := [][2]int{{1, 2}, {5, 9}}
			wear, _ := Wear(l, frames, i, steps)
			if again, e := Wear(l, goodFrames, i, steps); again != wear || e != api.OK {
				t.Fatalf("Wear without bad frames = %d, %d, with them %d", again, e, wear)
			}
			n, v, e := Peak(l, frames, i)
			if len(got) == 0 {
				if e != api.ErrNone {
					t.Fatalf("Peak of nothing: %d", e)
				}
				continue
			}
			at := slices.Index(values(got), slices.Max(values(got)))
			if got[at] != [2]int{n, v} || e != api.OK {
				t.Fatalf("Peak of %v = %d, %d, %d", got, n, v, e)
			}
		}
	}
}

// holding follows the text of the document.
func holding(l api.Layout, frames, raws [][]int, c api.Condition, n int) bool {
	f := l.Fields[c.Field]
	for k := n; k >= 0 && k > n-f.Every; k-- {
		if raws[k] == nil || slices.Index(l.Sync[:], frames[k][0])%f.Every != f.Phase {
			continue
		}
		v := f.Add*f.Den + raws[k][c.Field]*f.Num
		if c.Above {
			return v >= c.Limit*f.Den
		}
		return v <= c.Limit*f.Den
	}
	return false
}

func TestP12_12AllEventsAreFound(t *testing.T) {
	r := rand.New(rand.NewSource(2))
	found := 0
	for range 300 {
		l := random(r)
		frames, raws := packed(t, r, l)
		if len(l.Fields) == 0 {
			continue
		}
		x := api.Event{Hold: 1 + r.Intn(3)}
		for range 1 + r.Intn(2) {
			x.Conditions = append(x.Conditions, api.Condition{Field: r.Intn(len(l.Fields)), Limit: r.Intn(41) - 20, Above: r.Intn(2) == 0})
		}
		in := func(l []api.Span, n int) bool {
			return slices.ContainsFunc(l, func(s api.Span) bool { return n >= s.Low && n <= s.High })
		}
		spans, e := Events(l, frames, x)
		if e != api.OK {
			t.Fatal(e)
		}
		all := make([]bool, len(frames))
		for n := range frames {
			all[n] = !slices.ContainsFunc(x.Conditions, func(c api.Condition) bool { return !holding(l, frames, raws, c, n) })
		}
		for n := range frames {
			low, high := n, n
			for low > 0 && all[low-1] {
				low--
			}
			for high < len(frames)-1 && all[high+1] {
				high++
			}
			want := all[n] && high-low+1 >= x.Hold
			if in(spans, n) != want || want && !slices.Contains(spans, span(low, high)) {
				t.Fatalf("Events = %v, but the frame %d is in %d to %d: %v", spans, n, low, high, all[n])
			}
		}
		found += len(spans)
		longer, more := x, x
		longer.Hold++
		more.Conditions = append(slices.Clone(x.Conditions), api.Condition{Field: 0, Limit: 0})
		for _, y := range []api.Event{longer, more} {
			fewer, _ := Events(l, frames, y)
			for n := range frames {
				if in(fewer, n) && !in(spans, n) {
					t.Fatalf("Events = %v, with a stricter one %v", spans, fewer)
				}
			}
		}
	}
	if found < 100 {
		t.Errorf("only %d events", found)
	}
}

func TestP12_13LivesFromFlights(t *testing.T) {
	register := api.Register{Kinds: []api.Kind{{Hours: 100, Cycles: 100, Places: 1}}, Parts: []api.Part{{Known: true}}, Machines: 1}
	works := []api.Work{{Kind: api.Fitted}}
	flights, e := Flights(example(), marks(1, 1, 1, 0, 1), event(1, atLeast(2, 1)), 0, 2)
	if e != api.OK {
		t.Fatal(e)
	}
	used, e := parts.Used(register, append(works, flights...))
	if used[0] != [2]int{3, 2} || e != api.OK {
		t.Errorf("Used = %v, %d", used, e)
	}
}

func TestTheGreatestEvents(t *testing.T) {
	many := event(100, atLeast(0, -1000000), atMost(0, 1000000), atLeast(2, 0), atMost(2, 1))
	if l, e := Events(example(), marks(slices.Repeat([]int{1}, 200)...), many); !slices.Equal(l, []api.Span{span(0, 199)}) || e != api.OK {
		t.Errorf("Events = %v, %d", l, e)
	}
	below := example()
	below.Fields[1].Bit, below.Fields[1].Size, below.Fields[1].Word = 0, 4, 1
	below.Fields[0].Bit = 4
	if e := Check(below); e != api.OK {
		t.Errorf("Check of a field just below another one = %d", e)
	}
	crowd := api.Layout{Words: 32, Sync: [4]int{1, 2, 3, 4}}
	for i := range 17 {
		crowd.Fields = append(crowd.Fields, api.Bits{Word: i + 1, Size: 1, Den: 1, Every: 1})
	}
	if e := Check(crowd); e != api.ErrLayout {
		t.Errorf("Check of 17 fields = %d", e)
	}
	crowd.Fields = crowd.Fields[:16]
	if e := Check(crowd); e != api.OK {
		t.Errorf("Check of 16 fields = %d", e)
	}
}
