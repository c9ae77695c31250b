package health

import (
	"cmp"
	"math/bits"
	"slices"

	"swashplate/api"
	"swashplate/whole"
)

// areTables reports whether there are two tables of levels with the same sizes.
func areTables(before, now [][]int) bool {
	if !whole.Within(1, api.MaxSensors, len(before)) || len(now) != len(before) {
		return false
	}
	for i := range before {
		for _, row := range [2][]int{before[i], now[i]} {
			if len(row) != len(before[0]) || !whole.Within(1, api.MaxGears, len(row)) || !whole.Within(0, api.MaxLevel, row...) {
				return false
			}
		}
	}
	return true
}

// Changed returns the cells of a table whose level has changed.
func Changed(before, now [][]int, percent int) ([][2]int, api.Errno) {
	if !areTables(before, now) {
		return nil, api.ErrLevels
	}
	if !whole.Within(0, 10000, percent) {
		return nil, api.ErrArg
	}
	var cells [][2]int
	for sensor, row := range before {
		for gear, level := range row {
			if whole.Abs(now[sensor][gear]-level)*100 > percent*level {
				cells = append(cells, [2]int{sensor, gear})
			}
		}
	}
	return cells, api.OK
}

// set is a set of small numbers, bit by bit.
type set uint

func (s set) has(n int) bool { return s>>n&1 == 1 }

func (s set) size() int { return bits.OnesCount(uint(s)) }

// list returns the numbers of a set in ascending order.
func (s set) list() []int {
	var l []int
	for n := range bits.Len(uint(s)) {
		if s.has(n) {
			l = append(l, n)
		}
	}
	return l
}

// explanation is sensors that have come loose, and gears that are worn.
type explanation struct{ loose, worn set }

func (x explanation) size() int { return x.loose.size() + x.worn.size() }

// compare compares by how many sensors there are, and by the first one that differs.
func (x explanation) compare(y explanation) int {
	return cmp.Or(cmp.Compare(x.loose.size(), y.loose.size()), slices.Compare(x.loose.list(), y.loose.list()))
}

// checkCells returns ErrArg unless there are so many sensors and gears, and cells of these.
func checkCells(sensors, gears int, cells [][2]int) api.Errno {
	if !whole.Within(1, api.MaxSensors, sensors) || !whole.Within(1, api.MaxGears, gears) {
		return api.ErrArg
	}
	for i, c := range cells {
		if !whole.Within(0, sensors-1, c[0]) || !whole.Within(0, gears-1, c[1]) {
			return api.ErrArg
		}
		if i > 0 && slices.Compare(cells[i-1][:], c[:]) >= 0 {
			return api.ErrArg
		}
	}
	return api.OK
}

// fewest returns all explanations with the fewest sensors and gears, in order. With some sensors the gears of all cells that are left are needed.
func fewest(sensors int, cells [][2]int) []explanation {
	var least []explanation
	for loose := range set(1) << sensors {
		x := explanation{loose: loose}
		for _, c := range cells {
			if !loose.has(c[0]) {
				x.worn |= 1 << c[1]
			}
		}
		if len(least) > 0 && x.size() < least[0].size() {
			least = nil
		}
		if len(least) == 0 || x.size() == least[0].size() {
			least = append(least, x)
		}
	}
	slices.SortFunc(least, explanation.compare)
	return least
}

// Explain returns the fewest loose sensors and worn gears that explain cells.
func Explain(sensors, gears int, cells [][2]int) (loose, worn []int, e api.Errno) {
	if e := checkCells(sensors, gears, cells); e != api.OK {
		return nil, nil, e
	}
	x := fewest(sensors, cells)[0]
	return x.loose.list(), x.worn.list(), api.OK
}

// Certain returns what is in every explanation with so few.
func Certain(sensors, gears int, cells [][2]int) (loose, worn []int, e api.Errno) {
	if e := checkCells(sensors, gears, cells); e != api.OK {
		return nil, nil, e
	}
	l := fewest(sensors, cells)
	sure := l[0]
	for _, x := range l {
		sure.loose &= x.loose
		sure.worn &= x.worn
	}
	return sure.loose.list(), sure.worn.list(), api.OK
}

// Proof returns cells which show that no explanation has fewer: as many as can be, with no sensor and no gear twice.
func Proof(sensors, gears int, cells [][2]int) ([][2]int, api.Errno) {
	if e := checkCells(sensors, gears, cells); e != api.OK {
		return nil, e
	}
	var taken [api.MaxGears]int // the sensor that has each gear, and one more
	var seen set
	var find func(sensor int) bool
	find = func(sensor int) bool {
		for _, c := range cells {
			if c[0] != sensor || seen.has(c[1]) {
				continue
			}
			seen |= 1 << c[1]
			if taken[c[1]] == 0 || find(taken[c[1]]-1) {
				taken[c[1]] = sensor + 1
				return true
			}
		}
		return false
	}
	for sensor := range sensors {
		seen = 0
		find(sensor)
	}
	var proof [][2]int
	for gear, owner := range taken {
		if owner > 0 {
			proof = append(proof, [2]int{owner - 1, gear})
		}
	}
	return proof, api.OK
}
