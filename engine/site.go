package engine

import (
	"iter"

	"swashplate/api"
	"swashplate/check"
	"swashplate/rotor"
	"swashplate/spans"
	"swashplate/whole"
)

// Which engines run.
const (
	allRun = iota
	oneRuns
	choices
)

// running returns which engines run.
func running(one bool) int {
	if one {
		return oneRuns
	}
	return allRun
}

// site is a craft at a field, with its rates by engines and speed, and where it may sink into its own wake, by speed and sink.
type site struct {
	api.Craft
	api.Field
	rates [choices][api.MaxTop + 1]int
	wakes [api.MaxTop + 1][api.MaxDrop + 1]bool
}

func alone(n int) api.Span { return api.Span{Low: n, High: n} }

// checkCraft returns the errors of a craft.
func checkCraft(c api.Craft) api.Errno {
	if e := rotor.Check(c.Rotor); e != api.OK {
		return e
	}
	right := whole.Within(0, 100, c.One) && whole.Within(1, 1000, c.Unit, c.Step) && whole.Within(1, api.MaxTop, c.Top) &&
		whole.Within(1, api.MaxDrop, c.Drop) && whole.Within(0, c.Top, c.Touch) && whole.Within(1, c.Drop, c.Sink)
	if !right || !check.OnAxis(c.Rotor.Level.X, alone(0), alone(c.Top*c.Unit)) || !check.OnAxis(c.Rotor.RingLow.X, alone(0)) {
		return api.ErrCraft
	}
	return api.OK
}

// checkAir returns the errors of an air in which a craft flies.
func checkAir(c api.Craft, a api.Air) api.Errno {
	if !check.Spans(a.Weight, a.Temp, a.Height, a.Wind) {
		return api.ErrAir
	}
	r := c.Rotor
	if !check.OnAxis(r.Power.X, a.Temp) || !check.OnAxis(r.Power.Y, a.Height) || !check.OnAxis(r.Level.Y, a.Weight) || !check.OnAxis(r.RingLow.Y, a.Weight) {
		return api.ErrArg
	}
	return api.OK
}

// checkField returns ErrSite unless a field is valid.
func checkField(f api.Field) api.Errno {
	right := whole.Within(0, api.MaxFar, f.Length) && whole.Within(1, api.MaxTall, f.Clear) && whole.Within(0, api.MaxTop, f.Safe) &&
		len(f.Hindrances) <= api.MaxHind
	for _, h := range f.Hindrances {
		right = right && whole.Within(-api.MaxFar, api.MaxFar, h.At) && whole.Within(1, api.MaxTall, h.Height)
	}
	if !right {
		return api.ErrSite
	}
	return api.OK
}

// checkPose returns ErrPose unless a pose is valid, and down if it is on the ground.
func (s *site) checkPose(p api.Pose) api.Errno {
	valid := whole.Within(-api.MaxFar, api.MaxFar, p.X) && whole.Within(0, s.Top, p.Speed) && whole.Within(0, api.MaxTall, p.Height)
	if !valid || p.Height == 0 && !s.down(p) {
		return api.ErrPose
	}
	return api.OK
}

// prepare returns the site of a craft, an air and a field, or their first error.
func prepare(c api.Craft, a api.Air, f api.Field) (*site, api.Errno) {
	s := &site{Craft: c, Field: f}
	if e := checkCraft(c); e != api.OK {
		return s, e
	}
	if e := checkAir(c, a); e != api.OK {
		return s, e
	}
	if e := checkField(f); e != api.OK {
		return s, e
	}
	s.measure(a)
	return s, api.OK
}

// measure finds the rates and the wakes in an air.
func (s *site) measure(a api.Air) {
	has, _ := rotor.Has(s.Rotor, a)
	left, _ := spans.Part(has, s.One, 100)
	least := [choices]int{allRun: has.Low, oneRuns: left.Low}
	for n := range s.Top + 1 {
		speed := alone(n * s.Unit)
		level, _ := rotor.Level(s.Rotor, a, speed)
		for engines, power := range least {
			s.rates[engines][n] = whole.Floor(power-level.High, s.Rotor.Climb*s.Step)
		}
		if !check.OnAxis(s.Rotor.RingLow.X, speed) {
			continue
		}
		for sink := 1; sink <= s.Drop; sink++ {
			s.wakes[n][sink], _ = rotor.Wake(s.Rotor, a, speed, alone(sink*s.Step))
		}
	}
}

func (s *site) down(p api.Pose) bool {
	return p.Height == 0 && p.Speed <= s.Touch && whole.Within(0, s.Length, p.X)
}

func (s *site) away(p api.Pose) bool {
	return p.Height >= s.Clear && p.Speed >= s.Safe && s.rates[oneRuns][p.Speed] >= 0
}

// ended reports whether a pose is down or away.
func (s *site) ended(p api.Pose) bool { return s.down(p) || s.away(p) }

// steps goes through the poses to which a step leads, in order.
func (s *site) steps(p api.Pose, engines int) iter.Seq[api.Pose] {
	return func(yield func(api.Pose) bool) {
		for speed := max(0, p.Speed-1); speed <= min(s.Top, p.Speed+1, api.MaxFar-p.X); speed++ {
			highest := min(api.MaxTall, p.Height+s.rates[engines][speed])
			for height := max(0, p.Height-s.Drop); height <= highest; height++ {
				q := api.Pose{X: p.X + speed, Speed: speed, Height: height}
				if s.possible(p, q) && !yield(q) {
					return
				}
			}
		}
	}
}

// possible reports whether neither a hindrance nor the ground nor the wake forbids a step.
func (s *site) possible(p, q api.Pose) bool {
	for _, h := range s.Hindrances {
		if whole.Within(p.X, q.X, h.At) && min(p.Height, q.Height) < h.Height {
			return false
		}
	}
	if q.Height == 0 {
		return whole.Within(1, s.Sink, p.Height) && s.down(q)
	}
	return q.Height >= p.Height || !s.wakes[q.Speed][p.Height-q.Height]
}
