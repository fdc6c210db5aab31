package count_test

import (
	"math"
	"testing"

	"periscope/api"
	"periscope/count"
)

// P3.2, P21.2, P25.2: what is counted is at most MaxCount.
func TestCount(t *testing.T) {
	for _, x := range []struct {
		adds []int
		want int
	}{
		{nil, 0},
		{[]int{0}, 0},
		{[]int{1, 0, 2}, 3},
		{[]int{5, -3}, 5},
		{[]int{math.MinInt, 5}, 5},
		{[]int{api.MaxCount - 1}, api.MaxCount - 1},
		{[]int{api.MaxCount - 1, 1}, api.MaxCount},
		{[]int{api.MaxCount - 1, 2}, api.MaxCount},
		{[]int{api.MaxCount}, api.MaxCount},
		{[]int{api.MaxCount, 1, 1}, api.MaxCount},
		{[]int{api.MaxCount + 1}, api.MaxCount},
		{[]int{1, math.MaxInt}, api.MaxCount},
		{[]int{api.MaxCount, math.MaxInt, math.MaxInt, math.MinInt}, api.MaxCount},
	} {
		var c count.Count
		for _, n := range x.adds {
			c.Add(n)
			if c.N() < 0 || c.N() > api.MaxCount {
				t.Errorf("in %v: %d", x.adds, c.N())
			}
		}
		if c.N() != x.want {
			t.Errorf("of %v: %d; want %d", x.adds, c.N(), x.want)
		}
	}
}
