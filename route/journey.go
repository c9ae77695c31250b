package route

import (
	"iter"

	"swashplate/api"
	"swashplate/check"
	"swashplate/weather"
	"swashplate/whole"
)

// journey is a flight over a network, with the ticks in which it is at the places of its route, and whether each place is open in each tick.
type journey struct {
	network
	api.Flight
	arrive []int
	open   [][]bool
}

// plan returns a journey, or ErrFlight; whether places are open is left out.
func plan(n network, f api.Flight) (*journey, api.Errno) {
	j := &journey{network: n, Flight: f}
	right := whole.Within(1, api.MaxRoute, len(f.Route)) && whole.Within(0, n.Places-1, f.Route...) && check.Ticks(f.Depart) &&
		whole.Within(0, api.MaxFuel, f.Fuel, f.Reserve) && whole.Within(1, api.MaxFuel, f.Burn)
	if !right {
		return j, api.ErrFlight
	}
	tick := f.Depart
	for i, place := range f.Route {
		if i > 0 {
			ticks := n.legs[f.Route[i-1]][place]
			if ticks == 0 {
				return j, api.ErrFlight
			}
			tick += ticks
		}
		j.arrive = append(j.arrive, tick)
	}
	if tick > api.MaxTime {
		return j, api.ErrFlight
	}
	return j, api.OK
}

// blind returns the journey of a flight without looking at the weather.
func blind(m api.Met, net []api.Leg, f api.Flight) (*journey, api.Errno) {
	n, e := connect(m, net)
	if e != api.OK {
		return nil, e
	}
	return plan(n, f)
}

// seeing returns the journey of a flight in the weather.
func seeing(m api.Met, l api.Minima, net []api.Leg, f api.Flight) (*journey, api.Errno) {
	if _, e := weather.Open(m, l, 0, 0); e != api.OK {
		return nil, e
	}
	j, e := blind(m, net, f)
	if e != api.OK {
		return j, e
	}
	for place := range m.Places {
		open := make([]bool, api.MaxTime+1)
		windows, _ := weather.Windows(m, l, place, 0, api.MaxTime)
		for _, w := range windows {
			for tick := w.Low; tick <= w.High; tick++ {
				open[tick] = true
			}
		}
		open[api.MaxTime], _ = weather.Open(m, l, place, api.MaxTime)
		j.open = append(j.open, open)
	}
	return j, api.OK
}

// first and last are the places where the route begins and ends.
func (j *journey) first() int { return j.Route[0] }

func (j *journey) last() int { return j.Route[len(j.Route)-1] }

// arrival is the tick in which the flight arrives at its last place.
func (j *journey) arrival() int { return j.arrive[len(j.arrive)-1] }

// ticks is how many ticks there are from the departure to the arrival, both included.
func (j *journey) ticks() int { return j.arrival() - j.Depart + 1 }

// can returns where the flight can be at a place behind a tick, and when; false, if there is no way.
func (j *journey) can(tick, place int) (api.Haven, bool) {
	i := len(j.arrive) - 1
	for j.arrive[i] > tick {
		i--
	}
	time := j.times[j.Route[i]][place]
	if time < 0 {
		return api.Haven{}, false
	}
	back := api.Haven{Place: place, At: tick + (tick - j.arrive[i]) + time, Back: true}
	if tick == j.arrive[i] {
		back.Back = false
		return back, true
	}
	on := api.Haven{Place: place, At: j.arrive[i+1] + j.times[j.Route[i+1]][place]}
	if on.At <= back.At {
		return on, true
	}
	return back, true
}

// needs returns the fuel with which the flight is at a place in a tick with its reserve.
func (j *journey) needs(at int) int { return j.Burn*(at-j.Depart) + j.Reserve }

// opens goes through the places that are open when the flight can be there, whether the fuel lasts or not.
func (j *journey) opens(tick int) iter.Seq[api.Haven] {
	return func(yield func(api.Haven) bool) {
		for place := range j.Places {
			h, is := j.can(tick, place)
			if is && h.At <= api.MaxTime && j.open[place][h.At] && !yield(h) {
				return
			}
		}
	}
}

// havens goes through all havens for a tick.
func (j *journey) havens(tick int) iter.Seq[api.Haven] {
	return func(yield func(api.Haven) bool) {
		for h := range j.opens(tick) {
			if j.needs(h.At) <= j.Fuel && !yield(h) {
				return
			}
		}
	}
}

// soonest returns the one of some havens with the least tick; false, if there are none.
func soonest(l iter.Seq[api.Haven]) (best api.Haven, is bool) {
	for h := range l {
		if !is || h.At < best.At {
			best, is = h, true
		}
	}
	return best, is
}

// has reports whether a haven is one of those for a tick.
func (j *journey) has(tick int, haven api.Haven) bool {
	for h := range j.havens(tick) {
		if h == haven {
			return true
		}
	}
	return false
}

// safe reports whether there is a haven for each tick; otherwise it returns the first one without.
func (j *journey) safe() (int, bool) {
	for tick := j.Depart; tick <= j.arrival(); tick++ {
		if _, is := soonest(j.havens(tick)); !is {
			return tick, false
		}
	}
	return 0, true
}
