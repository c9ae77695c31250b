package whole

import "testing"

func TestQuotients(t *testing.T) {
	for _, c := range []struct{ a, b, floor, ceil int }{{7, 2, 3, 4}, {-7, 2, -4, -3}, {6, 2, 3, 3}, {-6, 2, -3, -3}, {0, 5, 0, 0}, {1, 5, 0, 1}, {-1, 5, -1, 0}} {
		if n := Floor(c.a, c.b); n != c.floor {
			t.Errorf("Floor(%d, %d) = %d", c.a, c.b, n)
		}
		if n := Ceil(c.a, c.b); n != c.ceil {
			t.Errorf("Ceil(%d, %d) = %d", c.a, c.b, n)
		}
	}
}

func TestLowest(t *testing.T) {
	for _, c := range [][4]int{{6, 4, 3, 2}, {-6, 4, -3, 2}, {0, 7, 0, 1}, {5, 1, 5, 1}, {3, 9, 1, 3}} {
		if n, d := Lowest(c[0], c[1]); n != c[2] || d != c[3] {
			t.Errorf("Lowest(%d, %d) = %d, %d", c[0], c[1], n, d)
		}
	}
}

func TestRanges(t *testing.T) {
	if !Within(1, 3) || !Within(1, 3, 1, 3) || Within(1, 3, 2, 4) || Within(1, 3, 0) {
		t.Error("Within")
	}
	if !Ascending() || !Ascending(1) || !Ascending(1, 2, 5) || Ascending(1, 1) || Ascending(2, 1) {
		t.Error("Ascending")
	}
	if Abs(-3) != 3 || Abs(3) != 3 || Abs(0) != 0 {
		t.Error("Abs")
	}
}

func TestFirstAndLast(t *testing.T) {
	for n := -3; n <= 5; n++ {
		k, is := First(-2, 4, func(i int) bool { return i >= n })
		if is != (n <= 4) || is && k != max(n, -2) {
			t.Errorf("First from %d on = %d, %v", n, k, is)
		}
		k, is = Last(-2, 4, func(i int) bool { return i <= n })
		if is != (n >= -2) || is && k != min(n, 4) {
			t.Errorf("Last up to %d = %d, %v", n, k, is)
		}
	}
	if n, is := Last(7, 7, func(int) bool { return true }); n != 7 || !is {
		t.Error("Last of one")
	}
	if _, is := First(1, 0, func(int) bool { return true }); is {
		t.Error("First of nothing")
	}
	if _, is := Last(1, 0, func(int) bool { return true }); is {
		t.Error("Last of nothing")
	}
}
