package stretch

import (
	"slices"
	"testing"

	"swashplate/api"
)

func TestWhere(t *testing.T) {
	is := func(n int) bool { return n != 3 && n != 5 && n != 9 }
	for _, c := range []struct {
		from, to, least int
		want            []api.Span
	}{
		{0, 10, 1, []api.Span{{Low: 0, High: 2}, {Low: 4, High: 4}, {Low: 6, High: 8}}},
		{0, 9, 3, []api.Span{{Low: 0, High: 2}, {Low: 6, High: 8}}},
		{0, 8, 3, []api.Span{{Low: 0, High: 2}}},
		{1, 3, 1, []api.Span{{Low: 1, High: 2}}},
		{3, 4, 1, nil},
		{4, 4, 1, nil},
	} {
		if l := Where(c.from, c.to, c.least, is); !slices.Equal(l, c.want) {
			t.Errorf("Where(%d, %d, %d) = %v", c.from, c.to, c.least, l)
		}
	}
}
