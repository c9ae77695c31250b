package deck

import (
	"swashplate/api"
	"swashplate/check"
	"swashplate/weather"
	"swashplate/whole"
)

// Check returns ErrDeck unless a deck is valid.
func Check(d api.Deck) api.Errno {
	right := whole.Within(1, api.MaxValue, d.Size, d.Load) && whole.Within(0, api.MaxWind, d.Wind) &&
		whole.Within(0, api.MaxSwell, d.Pitch, d.Roll, d.Heave) && whole.Within(0, 100, d.Fire) &&
		len(d.Sectors) <= api.MaxSectors && len(d.Shifts) <= api.MaxShifts && len(d.Shut) <= api.MaxShut
	for _, s := range d.Sectors {
		right = right && whole.Within(0, 359, s.From, s.To) && whole.Within(0, api.MaxWind, s.Wind)
	}
	for _, s := range d.Shifts {
		right = right && check.Period(s.From, s.To) && whole.Within(1, 100, s.People)
	}
	if !right || !check.Inside(0, api.MaxTime, d.Shut...) {
		return api.ErrDeck
	}
	return api.OK
}

// CheckMotion returns the errors of a deck and a motion.
func CheckMotion(d api.Deck, s api.Motion) api.Errno {
	if e := Check(d); e != api.OK {
		return e
	}
	if len(s.Roll) != len(s.Pitch) || len(s.Heave) != len(s.Pitch) || len(s.Pitch) > api.MaxTime+1 {
		return api.ErrMotion
	}
	for _, l := range [3][]int{s.Pitch, s.Roll, s.Heave} {
		if !whole.Within(-api.MaxSwell, api.MaxSwell, l...) {
			return api.ErrMotion
		}
	}
	return api.OK
}

// checkScene returns the errors of a deck, a met and a motion.
func checkScene(d api.Deck, m api.Met, s api.Motion) api.Errno {
	if e := Check(d); e != api.OK {
		return e
	}
	if e := weather.Check(m); e != api.OK {
		return e
	}
	return CheckMotion(d, s)
}

// checkApproach returns ErrApproach unless an approach is valid for a met that is.
func checkApproach(m api.Met, a api.Approach) api.Errno {
	_, e := weather.Open(m, a.Minima, a.Place, 0)
	if e != api.OK || !whole.Within(1, api.MaxValue, a.Size, a.Weight) || !isWind(a.Wind) {
		return api.ErrApproach
	}
	return api.OK
}

// isWind reports whether a span can be directions of the wind: on a second turn it may go over 0.
func isWind(s api.Span) bool { return check.Inside(0, 719, s) }

// conditions is how many conditions an open deck has.
const conditions = 6

// scene is a deck as it is for an approach, and the limit of the wind for its directions.
type scene struct {
	api.Deck
	met      api.Met
	motion   api.Motion
	approach api.Approach
	most     int
}

// look returns the scene of an approach.
func look(d api.Deck, m api.Met, s api.Motion, a api.Approach) scene {
	return scene{d, m, s, a, limit(d, a.Wind)}
}

// all returns the conditions of an open deck, in their order.
func (s scene) all() [conditions]func(tick int) bool {
	return [conditions]func(tick int) bool{s.fits, s.flyable, s.calm, s.quiet, s.manned, s.free}
}

// fits is the same in each tick.
func (s scene) fits(int) bool { return s.approach.Size <= s.Size && s.approach.Weight <= s.Load }

func (s scene) flyable(tick int) bool {
	is, _ := weather.Open(s.met, s.approach.Minima, s.approach.Place, tick)
	return is
}

func (s scene) calm(tick int) bool {
	sky, _ := weather.May(s.met, s.approach.Place, tick)
	return sky.Wind.High <= s.most
}

func (s scene) quiet(tick int) bool {
	m := s.motion
	if len(m.Pitch) == 0 {
		return true
	}
	if tick >= len(m.Pitch) || whole.Abs(m.Pitch[tick]) > s.Pitch || whole.Abs(m.Roll[tick]) > s.Roll {
		return false
	}
	return tick == 0 || whole.Abs(m.Heave[tick]-m.Heave[tick-1]) <= s.Heave
}

func (s scene) manned(tick int) bool {
	people := 0
	for _, shift := range s.Shifts {
		if shift.From <= tick && tick < shift.To {
			people += shift.People
		}
	}
	return people >= s.Fire
}

func (s scene) free(tick int) bool {
	for _, shut := range s.Shut {
		if whole.Within(shut.Low, shut.High, tick) {
			return false
		}
	}
	return true
}

// open reports whether the deck is open in a tick.
func (s scene) open(tick int) bool {
	for _, holds := range s.all() {
		if !holds(tick) {
			return false
		}
	}
	return true
}

// limit returns the limit of the wind for directions.
func limit(d api.Deck, wind api.Span) int {
	least := d.Wind
	for direction := wind.Low; direction <= wind.High; direction++ {
		for _, sector := range d.Sectors {
			if has(sector, direction%360) {
				least = min(least, sector.Wind)
			}
		}
	}
	return least
}

// has reports whether a sector has a direction.
func has(s api.Sector, direction int) bool {
	if s.From <= s.To {
		return whole.Within(s.From, s.To, direction)
	}
	return direction >= s.From || direction <= s.To
}
