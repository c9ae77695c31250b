package route

import (
	"iter"
	"slices"

	"swashplate/api"
	"swashplate/weather"
	"swashplate/whole"
)

// network is a met with its net: the ticks of the shortest leg between two places (0: there is none), and the time (-1: there is none).
type network struct {
	api.Met
	legs  [api.MaxSites][api.MaxSites]int
	times [][]int
}

// connect returns the network of a met and a net, or their first error.
func connect(m api.Met, net []api.Leg) (network, api.Errno) {
	n := network{Met: m}
	if e := weather.Check(m); e != api.OK {
		return n, e
	}
	if len(net) > api.MaxLegs {
		return n, api.ErrNet
	}
	for _, l := range net {
		if !whole.Within(0, m.Places-1, l.A, l.B) || l.A == l.B || !whole.Within(1, api.MaxLong, l.Ticks) {
			return n, api.ErrNet
		}
		n.join(l.A, l.B, l.Ticks)
		n.join(l.B, l.A, l.Ticks)
	}
	n.measure()
	return n, api.OK
}

func (n *network) join(a, b, ticks int) {
	if n.legs[a][b] == 0 || ticks < n.legs[a][b] {
		n.legs[a][b] = ticks
	}
}

// measure finds all times: over no other place, then over the first ones, one more each time.
func (n *network) measure() {
	for a := range n.Places {
		row := slices.Repeat([]int{-1}, n.Places)
		for b := range row {
			if n.legs[a][b] > 0 {
				row[b] = n.legs[a][b]
			}
		}
		row[a] = 0
		n.times = append(n.times, row)
	}
	for over := range n.Places {
		for a, row := range n.times {
			for b := range row {
				n.shorten(a, over, b)
			}
		}
	}
}

// shorten takes the time over a place if it is less.
func (n *network) shorten(a, over, b int) {
	first, second := n.times[a][over], n.times[over][b]
	if first >= 0 && second >= 0 && (n.times[a][b] < 0 || first+second < n.times[a][b]) {
		n.times[a][b] = first + second
	}
}

// routes goes through all routes from a place to another one without a place twice, those with lower places first.
func (n network) routes(from, to int) iter.Seq[[]int] {
	return func(yield func([]int) bool) {
		var extend func(route []int) bool
		extend = func(route []int) bool {
			last := route[len(route)-1]
			if last == to {
				return yield(slices.Clone(route))
			}
			for next := range n.Places {
				if n.legs[last][next] > 0 && !slices.Contains(route, next) && !extend(append(route, next)) {
					return false
				}
			}
			return true
		}
		extend([]int{from})
	}
}
