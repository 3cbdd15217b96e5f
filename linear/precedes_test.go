package linear_test

import (
	"math"
	"testing"

	"amnesia/api"
	"amnesia/linear"
)

// P18.3: Precedes.

func span(begin, end int) api.Call { return api.Call{Begin: begin, End: end} }

func TestPrecedes(t *testing.T) {
	for _, c := range []struct {
		end, begin int
		want       bool
	}{
		{5, 6, true}, {5, 5, false}, {5, 4, false}, {0, 1, true}, {0, 0, false}, {0, -1, false},
		{-1, 0, false}, {-1, 7, false}, {-1, math.MaxInt, false}, {-2, 7, false}, {-2, -1, false}, {-9, -1, false},
		{math.MinInt, math.MaxInt, false}, {math.MaxInt, math.MaxInt, false}, {math.MaxInt - 1, math.MaxInt, true}, {0, math.MaxInt, true},
		{0, math.MinInt, false}, {math.MaxInt, math.MinInt, false},
	} {
		a, b := called(0, write(7, "a"), 0, c.end, written(7, "a")), called(1, read(7), c.begin, 9, none(7))
		if linear.Precedes(a, b) != c.want || linear.Precedes(span(8, c.end), span(c.begin, -1)) != c.want || linear.Precedes(span(-1, c.end), span(c.begin, -8)) != c.want {
			t.Fatal(c)
		}
	}
}

// Of any two calls: such as may not be, and a call with itself.
func TestPrecedesOfAnyCalls(t *testing.T) {
	ends := []int{math.MinInt, -2, -1, 0, 1, 2, math.MaxInt - 1, math.MaxInt}
	for _, begin := range ends {
		for _, end := range ends {
			c := called(-3, api.Op{Kind: 99}, begin, end, api.Result{})
			if linear.Precedes(c, c) != (end >= 0 && end < begin) {
				t.Fatal("with itself:", begin, end)
			}
			for _, other := range ends {
				if linear.Precedes(c, span(other, begin)) != modelPrecedes(c, span(other, begin)) || linear.Precedes(c, span(other, end)) != (end >= 0 && end < other) {
					t.Fatal(begin, end, other)
				}
			}
		}
	}
	if linear.Precedes(api.Call{}, api.Call{}) || !linear.Precedes(api.Call{}, span(1, 0)) {
		t.Fatal("of a zero call: it is answered in row 0")
	}
}
