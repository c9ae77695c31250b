package engine

import (
	"slices"

	"swashplate/api"
)

// anywhere lets a way pass all poses.
func anywhere(api.Pose) bool { return true }

// way returns the shortest way from a pose to one that ends it, over poses that it may pass, and of several the first one: poses are found in the order of their ways.
func (s *site) way(from api.Pose, engines int, ends, passes func(api.Pose) bool) ([]api.Pose, api.Errno) {
	if !passes(from) {
		return nil, api.ErrNone
	}
	if ends(from) {
		return nil, api.OK
	}
	before := map[api.Pose]api.Pose{from: from}
	for found := []api.Pose{from}; len(found) > 0; found = found[1:] {
		for q := range s.steps(found[0], engines) {
			if _, known := before[q]; known || !passes(q) {
				continue
			}
			before[q] = found[0]
			if ends(q) {
				return traced(before, from, q), api.OK
			}
			found = append(found, q)
		}
	}
	return nil, api.ErrNone
}

// traced returns the way from a pose to another one, by the poses before each.
func traced(before map[api.Pose]api.Pose, from, to api.Pose) []api.Pose {
	var l []api.Pose
	for p := to; p != from; p = before[p] {
		l = append(l, p)
	}
	slices.Reverse(l)
	return l
}

// reach is a set of valid poses.
type reach [2*api.MaxFar + 1][api.MaxTop + 1][api.MaxTall + 1]bool

func (r *reach) at(p api.Pose) *bool { return &r[p.X+api.MaxFar][p.Speed][p.Height] }

func (r *reach) has(p api.Pose) bool { return *r.at(p) }

// reach returns all poses from which there is a way with one engine to a pose that ends it. No step leads back to a lesser X, so the greater ones are done first.
func (s *site) reach(ends func(api.Pose) bool) *reach {
	r := &reach{}
	for x := api.MaxFar; x >= -api.MaxFar; x-- {
		for s.grow(r, x, ends) {
		}
	}
	return r
}

// grow adds the poses at x that end a way, or from which a step leads to one of the set; it reports whether there were any.
func (s *site) grow(r *reach, x int, ends func(api.Pose) bool) bool {
	grown := false
	for speed := range s.Top + 1 {
		for height := range api.MaxTall + 1 {
			p := api.Pose{X: x, Speed: speed, Height: height}
			if !r.has(p) && (ends(p) || s.leads(p, r.has)) {
				*r.at(p) = true
				grown = true
			}
		}
	}
	return grown
}

// leads reports whether a step with one engine leads to a pose of a set.
func (s *site) leads(p api.Pose, in func(api.Pose) bool) bool {
	for q := range s.steps(p, oneRuns) {
		if in(q) {
			return true
		}
	}
	return false
}

// behindTicks returns where the helicopter is behind each tick of a departure.
func behindTicks(l []api.Pose) []api.Pose { return append([]api.Pose{{}}, l...) }

// stray returns the number of the first pose that is no step from the one before, or -1.
func (s *site) stray(l []api.Pose) int {
	at := api.Pose{}
	return slices.IndexFunc(l, func(p api.Pose) bool {
		from := at
		at = p
		return !s.isStep(from, p)
	})
}

// isStep reports whether a step with all engines leads from a pose to another one.
func (s *site) isStep(from, to api.Pose) bool {
	for q := range s.steps(from, allRun) {
		if q == to {
			return true
		}
	}
	return false
}

// cleared reports whether a departure is cleared; otherwise it returns the first tick behind which its pose is not covered, or -1.
func (s *site) cleared(l []api.Pose) (int, bool) {
	poses := behindTicks(l)
	covered := s.reach(s.ended)
	for tick, p := range poses {
		if !covered.has(p) {
			return tick, false
		}
	}
	return -1, s.away(poses[len(poses)-1])
}
