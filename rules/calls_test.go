package rules

import (
	"swashplate/api"
	"swashplate/crew"
	"swashplate/deck"
	"swashplate/engine"
	"swashplate/fleet"
	"swashplate/health"
	"swashplate/parts"
	"swashplate/record"
	"swashplate/rotor"
	"swashplate/route"
	s "swashplate/samples"
	"swashplate/sling"
	"swashplate/spans"
	"swashplate/weather"
)

// call is a function of the document with arguments with which it returns OK; with an error it may return a number, too.
type call struct {
	name     string
	function any
	args     []any
	numbered bool
}

// layer is the calls of a layer, and the errors that they may return.
type layer struct {
	errors []api.Errno
	calls  []call
}

func to(name string, function any, args ...any) call { return call{name, function, args, false} }

func numbered(name string, function any, args ...any) call { return call{name, function, args, true} }

func layers() map[string]layer {
	general := []api.Errno{api.OK, api.ErrArg, api.ErrMany, api.ErrNone}
	with := func(l []api.Errno, more ...api.Errno) []api.Errno {
		return append(append([]api.Errno(nil), l...), more...)
	}
	ofRotor := with(general, api.ErrRotor, api.ErrAir, api.ErrRing)
	ofEngine := with(general, api.ErrRotor, api.ErrAir, api.ErrCraft, api.ErrSite, api.ErrPose, api.ErrMove)
	ofWeather := with(general, api.ErrMet, api.ErrMinima, api.ErrWeather)
	ofParts := with(general, api.ErrSpan, api.ErrRegister, api.ErrWork)
	ofCrew := with(general, api.ErrSpan, api.ErrRoster, api.ErrDuty, api.ErrCabin, api.ErrGuest, api.ErrRotor, api.ErrAir)
	return map[string]layer{
		"spans":   {with(general, api.ErrSpan, api.ErrTable), spansCalls()},
		"rotor":   {ofRotor, rotorCalls()},
		"engine":  {ofEngine, engineCalls()},
		"weather": {ofWeather, weatherCalls()},
		"route":   {append(with(ofEngine, api.ErrNet, api.ErrFlight, api.ErrProof), ofWeather...), routeCalls()},
		"deck":    {with(general, api.ErrMet, api.ErrDeck, api.ErrMotion, api.ErrApproach), deckCalls()},
		"sling":   {with(general, api.ErrSpan, api.ErrSling, api.ErrHoist, api.ErrHaul), slingCalls()},
		"health":  {with(general, api.ErrVibration, api.ErrLevels), healthCalls()},
		"parts":   {ofParts, partsCalls()},
		"crew":    {ofCrew, crewCalls()},
		"fleet":   {with(general, api.ErrMet, api.ErrMinima, api.ErrNet, api.ErrRegister, api.ErrWork, api.ErrRoster, api.ErrDuty, api.ErrFleet, api.ErrPlan), fleetCalls()},
		"record":  {append(with(ofParts, api.ErrLayout, api.ErrEvent, api.ErrCase, api.ErrVibration), general...), recordCalls()},
	}
}

func spansCalls() []call {
	a, b := api.Box{s.Span(0, 9), s.Span(0, 9)}, api.Box{s.Span(3, 5), s.Span(8, 12)}
	return []call{
		to("Check", spans.Check, a), to("CheckTable", spans.CheckTable, s.Table()),
		to("Meet", spans.Meet, s.Span(1, 5), s.Span(4, 9)), to("Hull", spans.Hull, s.Span(1, 5), s.Span(4, 9)),
		to("Add", spans.Add, s.Span(-2, 3), s.Span(4, 5)), to("Times", spans.Times, s.Span(-2, 3), s.Span(4, 5)), to("Part", spans.Part, s.Span(-3, 7), 1, 2),
		to("Minus", spans.Minus, a, b), to("Covers", spans.Covers, a, []api.Box{b, a}), to("Count", spans.Count, []api.Box{a, b}),
		to("At", spans.At, s.Table(), 5, 0), to("Bound", spans.Bound, s.Table(), s.Span(5, 15), s.Span(0, 5)), to("Worst", spans.Worst, s.Table(), s.Span(5, 15), s.Span(0, 5)),
		to("Below", spans.Below, s.Table(), s.Span(5, 15), s.Span(0, 5), 30), to("Greatest", spans.Greatest, s.Table(), s.Span(0, 5), 29),
	}
}

func rotorCalls() []call {
	above, speed := s.Span(0, 20), s.Span(20, 50)
	drops := []api.Drop{{Speed: s.Span(20, 30), Sink: s.Span(2, 4), Ticks: 10}, {Speed: s.Span(0, 0), Sink: s.Span(1, 2), Ticks: 5}}
	return []call{
		to("Check", rotor.Check, s.Rotor()), to("Needs", rotor.Needs, s.Rotor(), s.Air(), above), to("Has", rotor.Has, s.Rotor(), s.Air()),
		to("Margin", rotor.Margin, s.Rotor(), s.Air(), above), to("Heaviest", rotor.Heaviest, s.Rotor(), s.Air(), above, 400),
		to("Level", rotor.Level, s.Rotor(), s.Air(), speed), to("Flow", rotor.Flow, s.Rotor(), s.Air(), speed), to("Rate", rotor.Rate, s.Rotor(), s.Air(), 50),
		to("Best", rotor.Best, s.Rotor(), s.Air()), to("Fast", rotor.Fast, s.Rotor(), s.Air()), to("Wake", rotor.Wake, s.Rotor(), s.Air(), s.Span(0, 10), s.Span(3, 4)),
		numbered("Descent", rotor.Descent, s.Rotor(), s.Air(), drops), to("Glide", rotor.Glide, s.Rotor(), s.Air(), 60, 180),
	}
}

func engineCalls() []call {
	p := api.Pose{X: 1, Speed: 1, Height: 2}
	return []call{
		to("Check", engine.Check, s.Craft(), s.Field()), to("Rates", engine.Rates, s.Craft(), s.Air(), true), to("Steps", engine.Steps, s.Craft(), s.Air(), s.Field(), p, true),
		to("Stop", engine.Stop, s.Craft(), s.Air(), s.Field(), p), to("Away", engine.Away, s.Craft(), s.Air(), s.Field(), p),
		numbered("Cleared", engine.Cleared, s.Craft(), s.Air(), s.Field(), s.Departure()), to("Decision", engine.Decision, s.Craft(), s.Air(), s.Field(), s.Departure()),
		to("Heaviest", engine.Heaviest, s.Craft(), s.Air(), s.Field(), s.Departure()), to("Depart", engine.Depart, s.Craft(), s.Air(), s.Field()),
		to("Approach", engine.Approach, s.Craft(), s.Air(), s.Field(), api.Pose{X: -3, Speed: 2, Height: 3}),
	}
}

func weatherCalls() []call {
	l := []api.Weather{{Wind: 20, See: 6000, Ceiling: 1500}, {Wind: 25, See: 6000, Ceiling: 1500}}
	return []call{
		to("Check", weather.Check, s.Met()), to("May", weather.May, s.Met(), 0, 12), to("Hull", weather.Hull, s.Met(), 0, 9, 11), to("Strange", weather.Strange, s.Met(), 0, 12),
		to("Open", weather.Open, s.Met(), s.Minima(), 0, 5), to("Perhaps", weather.Perhaps, s.Met(), s.Minima(), 0, 12), to("Windows", weather.Windows, s.Met(), s.Minima(), 0, 0, 20),
		to("First", weather.First, s.Met(), s.Minima(), 0, 0, 9), to("Alternates", weather.Alternates, s.Met(), s.Minima(), []int{1, 0}, 4, 5), to("Real", weather.Real, s.Met(), 1, 4, l),
	}
}

func routeCalls() []call {
	proof, _ := route.Proof(s.Flown(), s.Limits(), s.Net(), s.Flight())
	return []call{
		to("Check", route.Check, s.Flown(), s.Net(), s.Flight()), to("Times", route.Times, s.Flown(), s.Net()), to("Arrive", route.Arrive, s.Flown(), s.Net(), s.Flight()),
		to("Havens", route.Havens, s.Flown(), s.Limits(), s.Net(), s.Flight(), 4), to("Best", route.Best, s.Flown(), s.Limits(), s.Net(), s.Flight(), 12),
		to("Safe", route.Safe, s.Flown(), s.Limits(), s.Net(), s.Flight()), to("Proof", route.Proof, s.Flown(), s.Limits(), s.Net(), s.Flight()),
		numbered("Proves", route.Proves, s.Flown(), s.Limits(), s.Net(), s.Flight(), proof), to("NoReturn", route.NoReturn, s.Flown(), s.Net(), s.Flight()),
		to("Middle", route.Middle, s.Flown(), s.Net(), s.Flight()), to("Least", route.Least, s.Flown(), s.Limits(), s.Net(), s.Flight()),
		to("Soonest", route.Soonest, s.Flown(), s.Limits(), s.Net(), s.Flight(), 20), to("Route", route.Route, s.Flown(), s.Limits(), s.Net(), s.Flight(), 2),
		to("Burn", route.Burn, s.Lift(), 50), to("Payload", route.Payload, s.Lift(), s.Flown(), s.Limits(), s.Net(), s.Flight()),
	}
}

func deckCalls() []call {
	l := []api.Booking{{At: 0, Stay: 2, Approach: s.Approach()}, {At: 0, Stay: 1, Approach: s.Approach()}, {At: 8, Stay: 1, Approach: s.Approach()}}
	return []call{
		to("Check", deck.Check, s.Deck()), to("CheckMotion", deck.CheckMotion, s.Deck(), s.Motion()), to("Limit", deck.Limit, s.Deck(), s.Span(350, 380)),
		to("Quiet", deck.Quiet, s.Deck(), s.Motion(), 0, 10, 1), to("Manned", deck.Manned, s.Deck(), 0, 20), to("Why", deck.Why, s.Deck(), s.Met(), s.Motion(), s.Approach(), 12),
		to("Windows", deck.Windows, s.Deck(), s.Met(), s.Motion(), s.Approach(), 0, 20), to("Book", deck.Book, s.Deck(), s.Met(), s.Motion(), l),
	}
}

func slingCalls() []call {
	sling1, box := api.Sling{Num: 1, Damp: 1, Den: 2}, api.Box{s.Span(0, 10), s.Span(-1, 1)}
	l := []api.Haul{{Kind: api.Out, N: 10}, {Kind: api.Touch}, {Kind: api.Hook, N: 180}, {Kind: api.In, N: 10}, {Kind: api.Unhook}}
	return []call{
		to("Check", sling.Check, sling1), to("Swing", sling.Swing, sling1, [2]int{8, 1}, []int{0, 1, -1}), to("Reach", sling.Reach, sling1, box, s.Span(-1, 2), 3),
		to("Witness", sling.Witness, sling1, box, s.Span(-1, 2), 3, true), to("Keeps", sling.Keeps, sling1, box, s.Span(-1, 2), 3, s.Span(-12, 12)),
		to("Gust", sling.Gust, sling1, box, 3, s.Span(-12, 12)), to("Calm", sling.Calm, sling1, [2]int{8, 0}, 3, s.Span(-2, 4)), to("CheckHoist", sling.CheckHoist, s.Hoist()),
		numbered("Haul", sling.Haul, s.Hoist(), s.Span(0, 20), l), to("Carries", sling.Carries, s.Hoist(), s.Span(0, 20), 25, 150), to("Deepest", sling.Deepest, s.Hoist(), s.Span(0, 10), 200),
	}
}

func healthCalls() []call {
	sums, hours, values := []int{0, 36, 72, 36, 0, -36}, []int{0, 1, 2, 3}, []int{10, 12, 30, 16}
	return []call{
		to("Check", health.Check, s.Vibration()), to("Average", health.Average, s.Vibration(), 6), to("Pattern", health.Pattern, sums, 2), to("Residual", health.Residual, sums, 2),
		to("Measure", health.Measure, sums, 12, 2), to("Crest", health.Crest, api.Level{Energy: 28512, Peak: 108, Sum: 360, Den: 24}, 6), to("Trend", health.Trend, values),
		to("Chance", health.Chance, values), to("Alarm", health.Alarm, values, 11, 1, 2), to("Slope", health.Slope, hours, values), to("Forecast", health.Forecast, hours, values, 10),
		to("Changed", health.Changed, [][]int{{100, 50}, {20, 10}}, [][]int{{130, 50}, {20, 15}}, 20), to("Explain", health.Explain, 3, 3, s.Cells()),
		to("Proof", health.Proof, 3, 3, s.Cells()), to("Certain", health.Certain, 3, 3, s.Cells()),
	}
}

func partsCalls() []call {
	r, w := s.Register(), s.Works()
	issued := append(s.Works(), api.Work{Kind: api.Issued}, api.Work{Kind: api.Checked, A: 2})
	pages, series, steps := []api.Span{s.Span(0, 3), s.Span(2, 6)}, []int{0, 5, 2, 4, 1, 6, 0}, [][2]int{{2, 1}, {5, 10}}
	return []call{
		numbered("Check", parts.Check, r, issued), to("Used", parts.Used, r, w), to("Where", parts.Where, r, w), to("Left", parts.Left, r, issued, 2), to("Lacks", parts.Lacks, r, w[:1], 0),
		to("Longest", parts.Longest, r, w, 0, 2), to("History", parts.History, r, w, 0), to("Due", parts.Due, r, issued, 0), to("Gaps", parts.Gaps, 10, pages), to("Doubles", parts.Doubles, 10, pages),
		to("Cycles", parts.Cycles, series), to("Damage", parts.Damage, series, steps), to("Plan", parts.Plan, []int{5, 8}, []int{3, 4, 2, 3}),
		to("Suspects", parts.Suspects, r, w, 0, [][2]int{{0, 0}, {1, 0}, {1, 1}}, [][2]int{{0, 1}, {2, 1}}),
	}
}

func crewCalls() []call {
	r, l, c := s.Roster(), s.Duties(), api.Call{From: 18, To: 22}
	return []call{
		numbered("Check", crew.Check, r, l), to("Why", crew.Why, r, l, 1, api.Call{From: 60, To: 70, Craft: 1, Water: true}), to("Crews", crew.Crews, r, l, c),
		to("Worked", crew.Worked, r, l, 0, 4, 30), to("Until", crew.Until, r, l, 0, 16), to("Wet", crew.Wet, s.Guests(), 10), to("Loaded", crew.Loaded, s.Cabin(), s.Guests(), s.Span(0, 200)),
		to("Center", crew.Center, s.Cabin(), s.Guests(), []int{1, 0}, s.Span(0, 200)), to("Balanced", crew.Balanced, s.Cabin(), s.Guests(), []int{1, 0}, s.Span(0, 200)),
		to("Sit", crew.Sit, s.Cabin(), s.Guests(), s.Span(0, 200)), to("Lifts", crew.Lifts, s.Rotor(), s.Air(), s.Span(20, 20), s.Cabin(), s.Guests(), s.Span(0, 200)),
	}
}

func fleetCalls() []call {
	f, l, prices := s.Fleet(), s.Plan(), []int{5, 4, 7}
	return []call{
		to("Check", fleet.Check, f), to("Block", fleet.Block, f, 2, 1), numbered("CheckPlan", fleet.CheckPlan, f, l), to("Value", fleet.Value, f, l), to("Ready", fleet.Ready, f, l, 12),
		to("Best", fleet.Best, f), to("Bound", fleet.Bound, f, prices), to("Gap", fleet.Gap, f, l, prices), to("Replan", fleet.Replan, f, l, 20),
	}
}

func recordCalls() []call {
	l, frames, c := s.Layout(), s.Frames(), s.Case()
	x := api.Event{Hold: 1, Conditions: []api.Condition{{Field: 0, Limit: 12, Above: true}, {Field: 1, Limit: 10, Above: true}}}
	taxi := api.Event{Hold: 1, Conditions: []api.Condition{{Field: 2, Limit: 1, Above: true}}}
	shaken := append(s.Frames(), []int{400, 7, 0, 1}, []int{100, 9, 0, 0}, []int{200, 1, 0, 1})
	return []call{
		to("Check", record.Check, l), to("Good", record.Good, l, frames), to("Slips", record.Slips, l, [][]int{frames[0], frames[2]}), to("Read", record.Read, l, frames, 0),
		to("Pack", record.Pack, l, 1, []int{-2, 3, 1}), to("Events", record.Events, l, frames, x), to("All", record.All, l, frames, []api.Event{x, taxi}), to("Peak", record.Peak, l, frames, 0),
		to("Flights", record.Flights, l, frames, taxi, 0, 2), to("Wear", record.Wear, l, frames, 0, [][2]int{{2, 1}, {5, 10}}), to("Shake", record.Shake, l, shaken, 2, 2, 4),
		to("Holds", record.Holds, c, 2, 7), to("Until", record.Until, c, 1, 5), to("Weak", record.Weak, c, 2, 7), to("Renew", record.Renew, c, 2, 15),
	}
}
