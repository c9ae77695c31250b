// Package samples has the data of the document's examples, new with each call. Only tests use it.
package samples

import "swashplate/api"

// Span is all whole numbers from low to high.
func Span(low, high int) api.Span { return api.Span{Low: low, High: high} }

func table(x, y []int, values ...[]int) api.Table { return api.Table{X: x, Y: y, Values: values} }

// Table is the table T of the layer 1.
func Table() api.Table {
	return table([]int{0, 10, 20}, []int{0, 5}, []int{0, 10}, []int{20, 30}, []int{10, 50})
}

// Rotor is the rotor R of the layer 2.
func Rotor() api.Rotor {
	heavy := func() []int { return []int{1000, 2000} }
	return api.Rotor{
		Hover:    table(heavy(), []int{0, 40}, []int{400, 500}, []int{900, 1100}),
		Ground:   table([]int{0, 20}, []int{0, 30}, []int{70, 80}, []int{100, 100}),
		Level:    table([]int{0, 50, 100}, heavy(), []int{400, 900}, []int{250, 500}, []int{500, 800}),
		Power:    table([]int{0, 40}, []int{0, 1000}, []int{1200, 1000}, []int{1000, 800}),
		Never:    table(heavy(), []int{0, 40}, []int{120, 110}, []int{100, 90}),
		RingLow:  table([]int{0, 30}, heavy(), []int{5, 6}, []int{12, 14}),
		RingHigh: table([]int{0, 30}, heavy(), []int{15, 18}, []int{12, 14}),
		Glide:    table([]int{30, 90}, heavy(), []int{20, 24}, []int{16, 20}),
		Climb:    10, Burn: 200,
	}
}

// Air is the air A of the layer 2.
func Air() api.Air {
	return api.Air{Weight: Span(1000, 1500), Temp: Span(0, 20), Height: Span(0, 0), Wind: Span(0, 30)}
}

// Craft is the craft C of the layer 3.
func Craft() api.Craft {
	return api.Craft{Rotor: Rotor(), One: 50, Unit: 25, Step: 10, Top: 3, Drop: 2, Touch: 1, Sink: 1}
}

// Field is the field F of the layer 3.
func Field() api.Field {
	return api.Field{Length: 4, Clear: 3, Safe: 2, Hindrances: []api.Hindrance{{At: 6, Height: 2}}}
}

// Departure is a departure that the craft is cleared for.
func Departure() []api.Pose {
	return []api.Pose{{X: 1, Speed: 1, Height: 2}, {X: 3, Speed: 2, Height: 3}}
}

func sky(wind, see, ceiling api.Span, wild bool) api.Sky {
	return api.Sky{Wind: wind, See: see, Ceiling: ceiling, Ice: wild, Storm: wild}
}

// Met is the met of the layer 4.
func Met() api.Met {
	return api.Met{
		Places: 2, Any: sky(Span(0, 60), Span(0, 10000), Span(0, 3000), true), Wind: 5, See: 1000, Ceiling: 200,
		Forecasts: []api.Forecast{
			{Place: 0, From: 0, To: 20, Issued: 0, Sky: sky(Span(10, 30), Span(4000, 8000), Span(500, 2000), false)},
			{Place: 0, From: 10, To: 20, Issued: 5, Sky: sky(Span(25, 40), Span(1000, 3000), Span(300, 900), false)},
		},
		Sights: []api.Sight{{Place: 1, At: 4, Now: api.Weather{Wind: 20, See: 6000, Ceiling: 1500}}},
	}
}

// Minima are the minima of the layer 4.
func Minima() api.Minima { return api.Minima{Wind: 35, See: 3000, Ceiling: 400} }

// Flown is the met M of the layer 5.
func Flown() api.Met {
	clear := sky(Span(0, 10), Span(5000, 9000), Span(1000, 3000), false)
	fog := sky(Span(0, 10), Span(1000, 2000), Span(1000, 3000), false)
	return api.Met{Places: 3, Any: clear, Forecasts: []api.Forecast{{Place: 2, From: 10, To: 30, Sky: fog}, {Place: 0, From: 25, To: 60, Sky: fog}}}
}

// Limits are the minima of the layer 5.
func Limits() api.Minima { return api.Minima{Wind: 20, See: 3000, Ceiling: 500} }

// Net is the net of the layer 5.
func Net() []api.Leg { return []api.Leg{{A: 0, B: 1, Ticks: 10}, {A: 1, B: 2, Ticks: 8}} }

// Flight is the flight F of the layer 5.
func Flight() api.Flight {
	return api.Flight{Route: []int{0, 1, 2}, Fuel: 100, Burn: 2, Reserve: 20}
}

// Lift is how the craft of the layer 3 leaves.
func Lift() api.Lift {
	return api.Lift{Craft: Craft(), Air: Air(), Field: Field(), Departure: Departure(), Empty: 1100}
}

// Deck is the deck of the layer 6.
func Deck() api.Deck {
	return api.Deck{
		Size: 20, Load: 9000, Wind: 40, Sectors: []api.Sector{{From: 300, To: 60, Wind: 28}, {From: 150, To: 200, Wind: 25}},
		Pitch: 3, Roll: 3, Heave: 2, Fire: 3, Shifts: []api.Shift{{From: 0, To: 12, People: 2}, {From: 4, To: 20, People: 2}},
		Shut: []api.Span{Span(6, 6)},
	}
}

// Motion is the motion of the layer 6.
func Motion() api.Motion {
	return api.Motion{Pitch: []int{0, 1, 4, 0, 0, 1, 1, 0, 0, 0}, Roll: make([]int, 10), Heave: []int{0, 1, 2, 2, 5, 6, 6, 7, 7, 8}}
}

// Approach is the approach of the layer 6.
func Approach() api.Approach {
	return api.Approach{Size: 18, Weight: 8000, Minima: Minima(), Wind: Span(90, 100)}
}

// Hoist is the hoist H of the layer 7.
func Hoist() api.Hoist {
	return api.Hoist{Cable: 50, Charge: 2, Limits: table([]int{0, 50}, []int{0, 20}, []int{300, 200}, []int{200, 100})}
}

// Vibration is the vibration V of the layer 8.
func Vibration() api.Vibration {
	return api.Vibration{Samples: []int{0, 2, 4, 2, 0, -2, 0, 4, 8, 4, 0, -4, 0}, Marks: []int{0, 6, 12}}
}

// Cells are the cells of the layer 8.
func Cells() [][2]int { return [][2]int{{0, 0}, {0, 1}, {0, 2}, {1, 1}, {2, 1}} }

// Register is the register of the layer 9.
func Register() api.Register {
	return api.Register{
		Kinds:    []api.Kind{{Hours: 100, Cycles: 50, Places: 1}, {Hours: 1000, Cycles: 1000, Places: 2}},
		Parts:    []api.Part{{Kind: 0, Hours: 90, Cycles: 10, Known: true}, {Kind: 0, Known: true}, {Kind: 1, Known: true}, {Kind: 1, Known: true}},
		Machines: 1, Orders: []api.Order{{Kind: 1, Within: 5}},
	}
}

// Works are the works W of the layer 9.
func Works() []api.Work {
	return []api.Work{{Kind: api.Fitted}, {Kind: api.Fitted, A: 2}, {Kind: api.Fitted, A: 3, C: 1}, {Kind: api.Flown, B: 4, C: 3}}
}

// Roster is the roster of the layer 10.
func Roster() api.Roster {
	return api.Roster{
		People:  []api.Person{{Ratings: 3, Rank: 2, Dive: 100}, {Ratings: 1, Rank: 1, Dive: 50}, {Ratings: 2, Rank: 3, Dive: 100}},
		Longest: 10, Rest: 8, Window: 24, Total: 14, Recent: 40,
	}
}

// Duties are the duties of the layer 10.
func Duties() []api.Duty {
	return []api.Duty{{Person: 0, From: 0, To: 8}, {Person: 1, From: 2, To: 10}}
}

// Cabin is the cabin of the layer 10.
func Cabin() api.Cabin {
	return api.Cabin{Empty: 1000, Seats: []api.Seat{{Arm: 20, Exit: true}, {Arm: -20}, {Arm: 40}}, FuelArm: 10, Low: -2, High: 5}
}

// Guests are the guests of the layer 10.
func Guests() []api.Guest { return []api.Guest{{Weight: 100}, {Weight: 80, Able: true}} }

// Fleet is the fleet of the layer 11.
func Fleet() api.Fleet {
	return api.Fleet{
		Met:      api.Met{Places: 3, Any: sky(Span(0, 10), Span(5000, 9000), Span(1000, 3000), false)},
		Minima:   Limits(),
		Net:      []api.Leg{{A: 0, B: 1, Ticks: 5}, {A: 1, B: 2, Ticks: 4}},
		Register: api.Register{Kinds: []api.Kind{{Hours: 1000, Cycles: 1000}}, Machines: 2},
		Roster: api.Roster{
			People:  []api.Person{{Ratings: 1, Rank: 2}, {Ratings: 1, Rank: 2}, {Ratings: 1, Rank: 1}, {Ratings: 1, Rank: 1}},
			Longest: 60, Window: 100, Total: 100, Recent: 100,
		},
		Bases: []int{0, 1}, Crafts: []int{0, 0}, Turn: 2, Hour: 10, Cover: 1, Until: 60,
		Jobs: []api.Job{{From: 0, To: 1, Depart: 10, Value: 5}, {From: 1, To: 2, Depart: 12, Value: 4}, {From: 0, To: 2, Depart: 30, Value: 7}},
	}
}

// Plan is the best plan of the fleet.
func Plan() []api.Sortie {
	return []api.Sortie{{Job: 0, Machine: 0, Commander: 0, Mate: 1}, {Job: 2, Machine: 0, Commander: 0, Mate: 1}}
}

// Layout is the layout L of the layer 12.
func Layout() api.Layout {
	return api.Layout{Words: 4, Sync: [4]int{100, 200, 300, 400}, Fields: []api.Bits{
		{Word: 1, Bit: 0, Size: 8, Signed: true, Num: 1, Den: 2, Add: 10, Every: 1},
		{Word: 2, Bit: 4, Size: 3, Num: 5, Den: 1, Every: 2, Phase: 1},
		{Word: 3, Bit: 0, Size: 1, Num: 1, Den: 1, Every: 1},
	}}
}

// Frames are the frames of the layer 12.
func Frames() [][]int { return [][]int{{100, 4, 0, 0}, {200, 254, 48, 1}, {300, 6, 0, 0}} }

// Case is the case of the layer 12.
func Case() api.Case {
	return api.Case{
		Claims: []api.Claim{{Proofs: []int{0, 1}}, {Needs: []int{0}, Proofs: []int{2}, Any: true}, {Needs: []int{0, 1}}},
		Proofs: []api.Span{Span(0, 10), Span(5, 20), Span(8, 30)},
	}
}
