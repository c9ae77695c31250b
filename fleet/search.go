package fleet

import (
	"cmp"
	"iter"
	"slices"

	"swashplate/api"
)

// Only so many jobs and people are few enough for a search.
const (
	mostJobs   = 4
	mostPeople = 4
)

// few reports whether there are few enough jobs and people.
func (p *plan) few() bool { return len(p.Jobs) <= mostJobs && len(p.Roster.People) <= mostPeople }

// rows returns all lists of sorties without crews that can be flown behind those that are kept, and leave at a tick or later; lower jobs and machines first.
func (p *plan) rows(kept []api.Sortie, now int) [][]api.Sortie {
	var all [][]api.Sortie
	var extend func(l []api.Sortie)
	extend = func(l []api.Sortie) {
		all = append(all, l[len(kept):])
		for job := range p.Jobs {
			for machine := range p.blocks[job] {
				s := api.Sortie{Job: job, Machine: machine}
				if p.of(s).leaves >= now && p.flies(l, s, true) {
					extend(append(slices.Clone(l), s))
				}
			}
		}
	}
	extend(kept)
	return all
}

// classes returns rows by their value and their number of sorties: the better classes first, the rows of each in their order.
func (p *plan) classes(rows [][]api.Sortie) [][][]api.Sortie {
	compare := func(a, b []api.Sortie) int {
		return cmp.Or(cmp.Compare(p.value(b), p.value(a)), cmp.Compare(len(a), len(b)))
	}
	slices.SortStableFunc(rows, compare)
	var classes [][][]api.Sortie
	for i, row := range rows {
		if i == 0 || compare(rows[i-1], row) != 0 {
			classes = append(classes, nil)
		}
		last := len(classes) - 1
		classes[last] = append(classes[last], row)
	}
	return classes
}

// best returns the first plan that begins with the sorties that are kept, and whose others leave at a tick or later.
func (p *plan) best(kept []api.Sortie, now int) []api.Sortie {
	c := crews{plan: p, known: map[turn]bool{}}
	for _, class := range p.classes(p.rows(kept, now)) {
		if l, is := c.man(kept, class); is {
			return l
		}
	}
	return kept
}

// flown is with which machine somebody has flown each job, and one more; 0, if they have not. The order of the sorties follows from that.
type flown [api.MaxJobs]int

// turn is a sortie, the number of sorties before it, and what its commander and its mate have flown in these: nothing else decides whether they may fly it.
type turn struct {
	api.Sortie
	before          int
	commander, mate flown
}

// crews looks for crews of a plan.
type crews struct {
	*plan
	known map[turn]bool
}

// flownBy returns what a person has flown.
func flownBy(l []api.Sortie, person int) flown {
	var f flown
	for _, s := range l {
		if s.Commander == person || s.Mate == person {
			f[s.Job] = s.Machine + 1
		}
	}
	return f
}

// may reports whether a sortie has a crew that may fly it.
func (c *crews) may(before []api.Sortie, s api.Sortie) bool {
	t := turn{s, len(before), flownBy(before, s.Commander), flownBy(before, s.Mate)}
	is, known := c.known[t]
	if !known {
		is = c.crewed(before, s)
		c.known[t] = is
	}
	return is
}

// man returns the first plan that begins with the sorties that are kept, goes on like one of some rows of the same length, and has crews.
func (c *crews) man(kept []api.Sortie, rows [][]api.Sortie) ([]api.Sortie, bool) {
	var extend func(l []api.Sortie, rows [][]api.Sortie) ([]api.Sortie, bool)
	extend = func(l []api.Sortie, rows [][]api.Sortie) ([]api.Sortie, bool) {
		n := len(l) - len(kept)
		if n == len(rows[0]) {
			return l, true
		}
		for len(rows) > 0 {
			s, k := rows[0][n], 1
			for k < len(rows) && rows[k][n] == s {
				k++
			}
			for s := range c.crewsOf(s) {
				if !c.may(l, s) {
					continue
				}
				if found, is := extend(append(slices.Clone(l), s), rows[:k]); is {
					return found, true
				}
			}
			rows = rows[k:]
		}
		return nil, false
	}
	return extend(kept, rows)
}

// crewsOf goes through a sortie with all commanders and mates, in order.
func (c *crews) crewsOf(s api.Sortie) iter.Seq[api.Sortie] {
	return func(yield func(api.Sortie) bool) {
		people := len(c.Roster.People)
		for i := range people * people {
			s.Commander, s.Mate = i/people, i%people
			if s.Commander != s.Mate && !yield(s) {
				return
			}
		}
	}
}
