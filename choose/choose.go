// Package choose: one of several, by its rank.
package choose

// Least: which of those that fit has the least rank, the first one of several; -1: none fits.
func Least[T any](l []T, fits func(T) bool, rank func(T) int) int {
	best := -1
	for i, x := range l {
		if fits(x) && (best < 0 || rank(x) < rank(l[best])) {
			best = i
		}
	}
	return best
}
