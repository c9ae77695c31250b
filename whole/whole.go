// Package whole has what the layers need of whole numbers: quotients rounded down or up, ranges, and fractions in lowest terms.
package whole

// Floor returns a / b rounded down, also below 0; b is above 0.
func Floor(a, b int) int {
	q := a / b
	if a%b < 0 {
		q--
	}
	return q
}

// Ceil returns a / b rounded up, also below 0; b is above 0.
func Ceil(a, b int) int { return -Floor(-a, b) }

// Abs returns the amount of a number.
func Abs(a int) int { return max(a, -a) }

// Within reports whether all numbers are from low to high.
func Within(low, high int, numbers ...int) bool {
	for _, n := range numbers {
		if n < low || n > high {
			return false
		}
	}
	return true
}

// Ascending reports whether each number is greater than the one before.
func Ascending(numbers ...int) bool {
	for i := 1; i < len(numbers); i++ {
		if numbers[i-1] >= numbers[i] {
			return false
		}
	}
	return true
}

// Lowest returns a fraction in lowest terms; den is above 0.
func Lowest(num, den int) (int, int) {
	a, b := Abs(num), den
	for b != 0 {
		a, b = b, a%b
	}
	return num / a, den / a
}

// Last returns the last number from low to high of which is is true, if it is true up to some number and false from there on.
func Last(low, high int, is func(n int) bool) (int, bool) {
	n, found := First(low, high, func(n int) bool { return !is(n) })
	if !found {
		return high, low <= high
	}
	return n - 1, n > low
}

// First returns the first number from low to high of which is is true, if it is false up to some number and true from there on.
func First(low, high int, is func(n int) bool) (int, bool) {
	end := high
	for low <= high {
		middle := low + (high-low)/2
		if is(middle) {
			high = middle - 1
		} else {
			low = middle + 1
		}
	}
	return low, low <= end
}
