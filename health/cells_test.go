package health

import (
	"math"
	"math/rand"
	"slices"
	"testing"

	"swashplate/api"
)

func TestP8_5Changed(t *testing.T) {
	before := [][]int{{100, 50}, {20, 10}}
	for i, c := range []struct {
		now     [][]int
		percent int
		want    [][2]int
	}{
		{[][]int{{130, 50}, {20, 15}}, 20, [][2]int{{0, 0}, {1, 1}}},
		{[][]int{{120, 50}, {20, 12}}, 20, nil},
		{[][]int{{121, 50}, {20, 13}}, 20, [][2]int{{0, 0}, {1, 1}}},
		{[][]int{{80, 39}, {16, 7}}, 20, [][2]int{{0, 1}, {1, 1}}},
		{[][]int{{101, 49}, {20, 10}}, 0, [][2]int{{0, 0}, {0, 1}}},
		{[][]int{{10100, 50}, {2021, 0}}, 10000, [][2]int{{1, 0}}},
	} {
		if l, e := Changed(before, c.now, c.percent); !slices.Equal(l, c.want) || e != api.OK {
			t.Errorf("%d: Changed = %v, %d", i, l, e)
		}
	}
	if l, e := Changed([][]int{{0, 0}}, [][]int{{0, 1}}, 10000); !slices.Equal(l, [][2]int{{0, 1}}) || e != api.OK {
		t.Errorf("Changed from 0 = %v, %d", l, e)
	}
	great := slices.Repeat([][]int{slices.Repeat([]int{1000000}, 12)}, 8)
	if l, e := Changed(great, great, 0); l != nil || e != api.OK {
		t.Errorf("Changed of the greatest = %v, %d", l, e)
	}
	if l, e := Changed([][]int{{7}}, [][]int{{9}}, 20); !slices.Equal(l, [][2]int{{0, 0}}) || e != api.OK {
		t.Errorf("Changed of the least = %v, %d", l, e)
	}
	if l, e := Proof(1, 12, [][2]int{{0, 11}}); !slices.Equal(l, [][2]int{{0, 11}}) || e != api.OK {
		t.Errorf("Proof of the last gear = %v, %d", l, e)
	}
	wide, tall := [][]int{make([]int, 13)}, slices.Repeat([][]int{{1}}, 9)
	for i, c := range [][2][][]int{{nil, nil}, {{{}}, {{}}}, {wide, wide}, {tall, tall}, {{{1}}, {{1, 2}}}, {{{1}}, {{1}, {2}}}, {{{1, 2}, {1}}, {{1, 2}, {1}}}, {{{1, 2}, {1, 2}}, {{1, 2}, {1}}}, {{{-1}}, {{1}}}, {{{1}}, {{1000001}}}} {
		if l, e := Changed(c[0], c[1], -1); l != nil || e != api.ErrLevels {
			t.Errorf("%d: Changed = %v, %d", i, l, e)
		}
	}
	for _, percent := range []int{-1, 10001, math.MaxInt} {
		if l, e := Changed(before, before, percent); l != nil || e != api.ErrArg {
			t.Errorf("Changed by %d = %v, %d", percent, l, e)
		}
	}
}

func TestP8_5ExplainProofCertain(t *testing.T) {
	cells := [][2]int{{0, 0}, {0, 1}, {0, 2}, {1, 1}, {2, 1}}
	for i, c := range []struct {
		cells                            [][2]int
		loose, worn, sureLoose, sureWorn []int
	}{
		{cells, []int{0}, []int{1}, []int{0}, []int{1}},
		{[][2]int{{0, 0}}, nil, []int{0}, nil, nil},
		{nil, nil, nil, nil, nil},
		{[][2]int{{1, 0}, {1, 2}}, []int{1}, nil, []int{1}, nil},
		{[][2]int{{0, 2}, {1, 2}}, nil, []int{2}, nil, []int{2}},
		{[][2]int{{0, 0}, {1, 1}}, nil, []int{0, 1}, nil, nil},
		{[][2]int{{0, 0}, {0, 1}, {1, 0}, {1, 1}}, nil, []int{0, 1}, nil, nil},
	} {
		if loose, worn, e := Explain(3, 3, c.cells); !slices.Equal(loose, c.loose) || !slices.Equal(worn, c.worn) || e != api.OK {
			t.Errorf("%d: Explain = %v, %v, %d", i, loose, worn, e)
		}
		if loose, worn, e := Certain(3, 3, c.cells); !slices.Equal(loose, c.sureLoose) || !slices.Equal(worn, c.sureWorn) || e != api.OK {
			t.Errorf("%d: Certain = %v, %v, %d", i, loose, worn, e)
		}
		if l, e := Proof(3, 3, c.cells); len(l) != len(c.loose)+len(c.worn) || e != api.OK {
			t.Errorf("%d: Proof = %v, %d", i, l, e)
		}
	}
	for i, c := range []struct {
		sensors, gears int
		cells          [][2]int
	}{
		{0, 3, nil}, {9, 3, nil}, {3, 0, nil}, {3, 13, nil}, {3, 3, [][2]int{{3, 0}}}, {3, 3, [][2]int{{0, 3}}}, {3, 3, [][2]int{{-1, 0}}}, {3, 3, [][2]int{{0, -1}}},
		{3, 3, [][2]int{{0, 1}, {0, 1}}}, {3, 3, [][2]int{{0, 1}, {0, 0}}}, {3, 3, [][2]int{{1, 0}, {0, 1}}}, {math.MaxInt, math.MinInt, cells},
	} {
		if loose, worn, e := Explain(c.sensors, c.gears, c.cells); loose != nil || worn != nil || e != api.ErrArg {
			t.Errorf("%d: Explain = %v, %v, %d", i, loose, worn, e)
		}
		if loose, worn, e := Certain(c.sensors, c.gears, c.cells); loose != nil || worn != nil || e != api.ErrArg {
			t.Errorf("%d: Certain = %v, %v, %d", i, loose, worn, e)
		}
		if l, e := Proof(c.sensors, c.gears, c.cells); l != nil || e != api.ErrArg {
			t.Errorf("%d: Proof = %v, %d", i, l, e)
		}
	}
	var all [][2]int
	for s := range 8 {
		for g := range 12 {
			all = append(all, [2]int{s, g})
		}
	}
	if loose, worn, e := Explain(8, 12, all); len(loose) != 8 || worn != nil || e != api.OK {
		t.Errorf("Explain of all = %v, %v, %d", loose, worn, e)
	}
	if l, e := Proof(8, 12, all); len(l) != 8 || e != api.OK {
		t.Errorf("Proof of all = %v, %d", l, e)
	}
}

// subsets returns all subsets of the numbers below n, in ascending order each.
func subsets(n int) [][]int {
	l := [][]int{nil}
	for i := range n {
		for _, s := range l {
			l = append(l, append(slices.Clone(s), i))
		}
	}
	return l
}

func TestP8_11And12AProofForEveryExplanation(t *testing.T) {
	r := rand.New(rand.NewSource(1))
	for range 300 {
		sensors, gears, dense := 1+r.Intn(4), 1+r.Intn(5), 1+r.Intn(4)
		var cells [][2]int
		for s := range sensors {
			for g := range gears {
				if r.Intn(4) < dense {
					cells = append(cells, [2]int{s, g})
				}
			}
		}
		var best [][2][]int
		for _, loose := range subsets(sensors) {
			for _, worn := range subsets(gears) {
				if slices.ContainsFunc(cells, func(c [2]int) bool { return !slices.Contains(loose, c[0]) && !slices.Contains(worn, c[1]) }) {
					continue
				}
				if len(best) > 0 && len(loose)+len(worn) < len(best[0][0])+len(best[0][1]) {
					best = nil
				}
				if len(best) == 0 || len(loose)+len(worn) == len(best[0][0])+len(best[0][1]) {
					best = append(best, [2][]int{loose, worn})
				}
			}
		}
		first := slices.MinFunc(best, func(a, b [2][]int) int {
			if len(a[0]) != len(b[0]) {
				return len(a[0]) - len(b[0])
			}
			return slices.Compare(a[0], b[0])
		})
		loose, worn, e := Explain(sensors, gears, cells)
		if !slices.Equal(loose, first[0]) || !slices.Equal(worn, first[1]) || e != api.OK {
			t.Fatalf("Explain(%v) = %v, %v, %d, want %v", cells, loose, worn, e, first)
		}
		sure := [2][]int{}
		for k := range 2 {
			for n := range 8 {
				if !slices.ContainsFunc(best, func(x [2][]int) bool { return !slices.Contains(x[k], n) }) {
					sure[k] = append(sure[k], n)
				}
			}
		}
		sureLoose, sureWorn, e := Certain(sensors, gears, cells)
		if !slices.Equal(sureLoose, sure[0]) || !slices.Equal(sureWorn, sure[1]) || e != api.OK {
			t.Fatalf("Certain(%v) = %v, %v, %d, want %v", cells, sureLoose, sureWorn, e, sure)
		}
		proof, e := Proof(sensors, gears, cells)
		if len(proof) != len(loose)+len(worn) || e != api.OK {
			t.Fatalf("Proof(%v) = %v, %d", cells, proof, e)
		}
		var seenSensors, seenGears []int
		for _, c := range proof {
			if !slices.Contains(cells, c) || slices.Contains(seenSensors, c[0]) || slices.Contains(seenGears, c[1]) {
				t.Fatalf("Proof(%v) = %v", cells, proof)
			}
			seenSensors, seenGears = append(seenSensors, c[0]), append(seenGears, c[1])
		}
	}
}
