package fleet

import (
	"slices"

	"swashplate/api"
	"swashplate/crew"
	"swashplate/parts"
	"swashplate/route"
	"swashplate/weather"
	"swashplate/whole"
)

// block is how a machine flies a job: whether there are all times, when it leaves its base, arrives at To, and is home, and its air time; whether it may fly it in good weather, and whether all places are open.
type block struct {
	known                      bool
	leaves, arrives, home, air int
	sound, open                bool
}

// plan is a valid fleet with what all its plans depend on: the blocks by job and machine, and the greatest air time of each machine, or -1.
type plan struct {
	api.Fleet
	blocks [][]block
	most   []int
}

// check returns the errors of a fleet, and the times between its places.
func check(f api.Fleet) ([][]int, api.Errno) {
	if _, e := weather.Open(f.Met, f.Minima, 0, 0); e != api.OK {
		return nil, e
	}
	times, e := route.Times(f.Met, f.Net)
	if e != api.OK {
		return nil, e
	}
	if _, e := parts.Check(f.Register, f.Works); e != api.OK {
		return nil, e
	}
	if _, e := crew.Check(f.Roster, f.Duties); e != api.OK {
		return nil, e
	}
	if !isFleet(f) {
		return nil, api.ErrFleet
	}
	return times, api.OK
}

// isFleet reports whether a fleet is valid whose parts are.
func isFleet(f api.Fleet) bool {
	machines, place := f.Register.Machines, f.Met.Places-1
	right := len(f.Bases) == machines && len(f.Crafts) == machines && whole.Within(0, place, f.Bases...) && whole.Within(0, api.MaxCrafts-1, f.Crafts...) &&
		whole.Within(0, api.MaxTurn, f.Turn) && whole.Within(1, api.MaxTurn, f.Hour) && whole.Within(0, machines, f.Cover) &&
		whole.Within(1, api.MaxTime, f.Until) && len(f.Jobs) <= api.MaxJobs
	for _, j := range f.Jobs {
		right = right && whole.Within(0, place, j.From, j.To) && j.From != j.To && whole.Within(0, f.Until-1, j.Depart) && whole.Within(0, api.MaxValue, j.Value)
	}
	return right
}

// prepare returns what all plans of a fleet depend on, or its first error.
func prepare(f api.Fleet) (*plan, api.Errno) {
	times, e := check(f)
	if e != api.OK {
		return nil, e
	}
	p := &plan{Fleet: f}
	for machine := range f.Register.Machines {
		hours, e := parts.Longest(f.Register, f.Works, machine, 0)
		if e != api.OK {
			p.most = append(p.most, -1)
			continue
		}
		p.most = append(p.most, hours*f.Hour)
	}
	for _, j := range f.Jobs {
		var row []block
		for machine := range f.Register.Machines {
			row = append(row, p.block(times, j, machine))
		}
		p.blocks = append(p.blocks, row)
	}
	return p, api.OK
}

// block returns how a machine flies a job.
func (p *plan) block(times [][]int, j api.Job, machine int) block {
	base := p.Bases[machine]
	out, over, back := times[base][j.From], times[j.From][j.To], times[j.To][base]
	if out < 0 || over < 0 || back < 0 {
		return block{}
	}
	b := block{known: true, leaves: j.Depart, arrives: j.Depart + over, home: j.Depart + over, air: out + over + back}
	if base != j.From {
		b.leaves -= p.Turn + out
	}
	if base != j.To {
		b.home += p.Turn + back
	}
	b.sound = b.leaves >= 0 && b.home < p.Until && p.most[machine] >= 0
	b.open = b.sound && p.open(base, b.leaves) && p.open(j.From, j.Depart) && p.open(j.To, b.arrives) && p.open(base, b.home)
	return b
}

func (p *plan) open(place, tick int) bool {
	is, _ := weather.Open(p.Met, p.Minima, place, tick)
	return is
}

// has reports whether there are a job and a machine.
func (p *plan) has(job, machine int) bool {
	return whole.Within(0, len(p.Jobs)-1, job) && whole.Within(0, p.Register.Machines-1, machine)
}

func (p *plan) of(s api.Sortie) block { return p.blocks[s.Job][s.Machine] }

// flies reports whether a sortie is right beside those before it, but for its crew. Without weather, places need not be open.
func (p *plan) flies(before []api.Sortie, s api.Sortie, withWeather bool) bool {
	if !p.has(s.Job, s.Machine) {
		return false
	}
	b := p.of(s)
	if !b.sound || withWeather && !b.open {
		return false
	}
	air := b.air
	for _, t := range before {
		if t.Job == s.Job || !p.follows(t, s) {
			return false
		}
		if t.Machine == s.Machine {
			air += p.of(t).air
		}
	}
	return air <= p.most[s.Machine] && p.covered(before, s)
}

// follows reports whether a sortie may come behind another one in a plan.
func (p *plan) follows(before, s api.Sortie) bool {
	a, b := p.of(before), p.of(s)
	if before.Machine == s.Machine && b.leaves < a.home+p.Turn {
		return false
	}
	return a.leaves < b.leaves || a.leaves == b.leaves && before.Job < s.Job
}

// covered reports whether enough machines are ready while a sortie is flown beside those before it. These have all left by then, so the fewest machines are ready when it leaves.
func (p *plan) covered(before []api.Sortie, s api.Sortie) bool {
	return len(p.ready(before, p.of(s).leaves))-1 >= p.Cover
}

// ready returns the machines that are ready in a tick.
func (p *plan) ready(l []api.Sortie, tick int) []int {
	var machines []int
	for m := range p.Register.Machines {
		flies := func(s api.Sortie) bool { return s.Machine == m && p.of(s).leaves <= tick && tick < p.of(s).home }
		if !slices.ContainsFunc(l, flies) {
			machines = append(machines, m)
		}
	}
	return machines
}

// crewed reports whether a sortie that flies has a crew that may fly it beside the duties of those before it.
func (p *plan) crewed(before []api.Sortie, s api.Sortie) bool {
	duties := slices.Clone(p.Duties)
	for _, t := range before {
		duties = append(duties, p.duties(t)...)
	}
	b := p.of(s)
	call := api.Call{From: b.leaves, To: b.home, Craft: p.Crafts[s.Machine], Water: p.Jobs[s.Job].Water}
	pairs, e := crew.Crews(p.Roster, duties, call)
	if e != api.OK || !slices.Contains(pairs, [2]int{s.Commander, s.Mate}) {
		return false
	}
	_, e = crew.Check(p.Roster, append(duties, p.duties(s)...))
	return e == api.OK
}

// duties returns the duties of the crew of a sortie.
func (p *plan) duties(s api.Sortie) []api.Duty {
	b := p.of(s)
	return []api.Duty{{Person: s.Commander, From: b.leaves, To: b.home}, {Person: s.Mate, From: b.leaves, To: b.home}}
}

// wrong returns the number of the first sortie that is not right, or -1.
func (p *plan) wrong(l []api.Sortie, withWeather bool) int {
	for i, s := range l {
		if !p.flies(l[:i], s, withWeather) || !p.crewed(l[:i], s) {
			return i
		}
	}
	return -1
}

func (p *plan) value(l []api.Sortie) int {
	sum := 0
	for _, s := range l {
		sum += p.Jobs[s.Job].Value
	}
	return sum
}
