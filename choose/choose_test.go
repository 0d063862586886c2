package choose_test

import (
	"testing"

	"weighbridge/choose"
)

func TestLeast(t *testing.T) {
	even := func(x int) bool { return x%2 == 0 }
	low := func(x int) int { return x / 10 }
	for _, c := range []struct {
		l    []int
		want int
	}{
		{nil, -1}, {[]int{1, 3}, -1}, {[]int{2}, 0}, {[]int{1, 2}, 1},
		{[]int{30, 10, 20}, 1}, {[]int{30, 11, 20}, 2}, {[]int{30, 14, 12}, 1}, {[]int{0, -20, -40}, 2},
	} {
		if got := choose.Least(c.l, even, low); got != c.want {
			t.Errorf("Least(%d) = %d, want %d", c.l, got, c.want)
		}
	}
}
