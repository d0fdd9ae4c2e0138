package scan_test

import (
	"slices"
	"testing"
)

// Lists of levels that are nil, empty, too short and too long, or as many as another size has; just as many are taken (P10.3).
func TestHowManyLevels(t *testing.T) {
	for _, c := range calls() {
		for _, size := range sizes() {
			n, side := places(size), sideOf(size)
			for _, many := range []int{0, 1, 2, 15, 16, 17, 63, 64, 65, 255, 256, 257, 1023, 1024, 1025, 4095, 4096, 4097, side, side * (side - 1), side * (side + 1), n - 1, n, n + 1, 2 * n} {
				for _, at := range []int{0, 1, n - 1} {
					if many == n {
						c.answers(t, make([]int, many), size, at, 0)
					} else {
						c.refused(t, make([]int, many), size, at)
					}
				}
			}
			c.refused(t, nil, size, 0)
			c.refused(t, nil, size, -1)
			c.refused(t, []int{}, size, 0)
			c.refused(t, make([]int, n-1, 2*n), size, 0) // spare room counts for nothing
		}
	}
}

// 64 has the side 32: as many levels as 32 has, and not one for each sample (P10.3).
func TestLevelsOf64(t *testing.T) {
	for _, c := range calls() {
		c.answers(t, make([]int, 1024), 64, 1023, 0)
		c.refused(t, make([]int, 1024), 64, 1024)
		c.refused(t, make([]int, 4096), 64, 0)
		c.refused(t, make([]int, 4096), 64, 4095)
		l := make([]int, 1024)
		l[32] = 7
		c.check(t, l, 64, 0)
		c.check(t, l, 32, 0)
	}
}

// Places at both ends are taken; none just beyond them or far away is (P10.3).
func TestWrongPlaces(t *testing.T) {
	for _, c := range calls() {
		for _, size := range sizes() {
			for _, l := range [][]int{make([]int, places(size)), alike(places(size), 3)} {
				c.check(t, l, size, 0)
				c.check(t, l, size, places(size)-1)
				for _, at := range noPlaces(size) {
					c.refused(t, l, size, at)
				}
			}
		}
	}
}

// Sizes that are none, with as many levels as they would have, and with others (P10.3).
func TestWrongSizes(t *testing.T) {
	lists := [][]int{nil, {}, {1}, make([]int, 16), alike(64, 3), make([]int, 256), alike(1024, -3), make([]int, 4096)}
	for _, c := range calls() {
		for _, size := range noSizes() {
			for _, l := range lists {
				for _, at := range []int{0, 1, -1, 15, 16} {
					c.refused(t, l, size, at)
				}
			}
			if size >= -256 && size <= 256 {
				c.refused(t, make([]int, size*size), size, 0)
				c.refused(t, make([]int, max(size, -size)), size, 0)
			}
		}
	}
}

// Where several things are wrong it is ErrArg too, and nothing stands beside it (P10.3).
func TestSeveralWrong(t *testing.T) {
	for _, c := range calls() {
		for _, size := range slices.Concat(sizes(), []int{0, 5, -4, 128}) {
			for _, at := range noPlaces(size) {
				c.refused(t, nil, size, at)
				c.refused(t, alike(15, 3), size, at)
				c.refused(t, alike(1025, 3), size, at)
				c.refused(t, alike(16, 3), 5, at)
			}
		}
	}
}
