package part_test

import (
	"math"
	"slices"
	"testing"

	"zoetrope/api"
)

// all are as many choices PartSplit as bring a whole square down to blocks of 8: for its regions of 64, of 32 and of 16.
func all() []int { return slices.Repeat([]int{api.PartSplit}, 1+4+16) }

// The chapter's rows (P16.2).
func TestBlocksOfExamples(t *testing.T) {
	whole := rect(0, 0, 64, 64)
	blocksAre(t, whole, whole, nil, 0, whole)
	blocksAre(t, whole, whole, []int{13, 1}, 2, rect(0, 0, 32, 16), rect(0, 16, 32, 16), rect(32, 0, 32, 32), rect(0, 32, 32, 32), rect(32, 32, 32, 32))
	blocksAre(t, whole, rect(0, 0, 24, 16), nil, 0, rect(0, 0, 16, 16), rect(16, 0, 8, 8), rect(16, 8, 8, 8))
	blocksAre(t, rect(64, 0, 64, 64), whole, []int{5}, 0)
}

// Trees worked out by hand (P16.2).
func TestBlocksByHand(t *testing.T) {
	r := rect(128, 64, 64, 64)
	// more choices than are used
	blocksAre(t, r, rect(0, 0, 1024, 1024), []int{9, 1, 2, 3}, 1, rect(128, 64, 16, 64), rect(144, 64, 16, 64), rect(160, 64, 16, 64), rect(176, 64, 16, 64))
	// just as many
	blocksAre(t, r, rect(0, 0, 1024, 1024), []int{3, 0, 4, -10, 19}, 5, rect(128, 64, 32, 32), rect(160, 64, 16, 16), rect(176, 64, 16, 16), rect(160, 80, 32, 16), rect(128, 96, 32, 32), rect(160, 96, 8, 32), rect(168, 96, 8, 32), rect(176, 96, 8, 32), rect(184, 96, 8, 32))
	// too few: of the second quarter on all are whole
	blocksAre(t, r, rect(0, 0, 1024, 1024), []int{-7, -7, -5}, 3, rect(128, 64, 8, 8), rect(136, 64, 8, 8), rect(128, 72, 8, 8), rect(136, 72, 8, 8), rect(144, 64, 16, 16), rect(128, 80, 16, 16), rect(144, 80, 16, 16), rect(160, 64, 32, 32), rect(128, 96, 32, 32), rect(160, 96, 32, 32))
	// over the right edge: the left quarters are whole and have choices, the right ones are split, and theirs of 16 have
	blocksAre(t, r, rect(0, 0, 176, 1024), []int{2, 7, 8, 8, 6}, 5, rect(128, 64, 16, 32), rect(144, 64, 16, 32), rect(160, 64, 8, 16), rect(168, 64, 8, 8), rect(168, 72, 8, 8), rect(160, 80, 16, 16), rect(128, 96, 32, 8), rect(128, 104, 32, 8), rect(128, 112, 32, 8), rect(128, 120, 32, 8), rect(160, 96, 8, 8), rect(160, 104, 8, 8), rect(168, 96, 8, 16), rect(160, 112, 16, 16))
	// an area inside of the square
	blocksAre(t, r, rect(152, 88, 16, 24), []int{1, 2, 3}, 0, rect(152, 88, 8, 8), rect(160, 88, 8, 8), rect(152, 96, 8, 8), rect(152, 104, 8, 8), rect(160, 96, 8, 8), rect(160, 104, 8, 8))
	// beside it, below it, and at its corner
	for _, a := range []api.Rect{rect(192, 64, 64, 64), rect(64, 64, 64, 64), rect(128, 0, 64, 64), rect(128, 128, 64, 64), rect(192, 128, 8, 8), rect(120, 56, 8, 8), rect(192, 56, 8, 8), rect(120, 128, 8, 8)} {
		blocksAre(t, r, a, []int{3, 3, 3}, 0)
	}
}

// A square that is split down to blocks of 8, quarter by quarter, all choices used (P16.2).
func TestBlocksOfEight(t *testing.T) {
	r := rect(64, 320, 64, 64)
	var want []api.Rect
	for i := range 64 {
		// the bits of a block's turn are by turns of x and of y
		x := i&1 | i>>1&2 | i>>2&4
		y := i>>1&1 | i>>2&2 | i>>3&4
		want = append(want, rect(64+8*x, 320+8*y, 8, 8))
	}
	blocksAre(t, r, rect(0, 0, 1024, 1024), all(), len(all()), want...)
	blocksAre(t, r, r, append(all(), 1, 2, 3), len(all()), want...)
}

// Each partition of a whole square, of each of its quarters, and of each quarter of those, by choices from both sides of 0 (P16.2).
func TestBlocksByOneChoice(t *testing.T) {
	whole := rect(0, 0, 1024, 1024)
	for _, r := range []api.Rect{rect(0, 0, 64, 64), rect(960, 448, 64, 64)} {
		for c := -130; c <= 130; c++ {
			asModel(t, r, whole, []int{c})
			for at := range 4 {
				l := append(make([]int, at+1), c)
				l[0] = api.PartSplit
				asModel(t, r, whole, l)
				for below := range 4 {
					l := append(make([]int, at+1+below+1), c)
					l[0], l[at+1] = api.PartSplit, api.PartSplit
					asModel(t, r, whole, l)
				}
			}
		}
	}
}

// All partitions of all four quarters of a square, and of all four quarters of one of those (P16.2).
func TestBlocksOfAllQuarters(t *testing.T) {
	r := rect(64, 64, 64, 64)
	for n := range 10 * 10 * 10 * 10 {
		asModel(t, r, r, []int{3, n % 10, n / 10 % 10, n / 100 % 10, n / 1000})
	}
	for n := range 8 * 8 * 8 * 8 {
		asModel(t, r, r, []int{3, n % 3, 3, n % 8, n / 8 % 8, n / 64 % 8, n / 512})
	}
}

// Choices at both ends of what a number may be (P16.2).
func TestBlocksOfFarChoices(t *testing.T) {
	whole := rect(0, 0, 64, 64)
	for _, first := range []int{math.MaxInt, math.MinInt, math.MaxInt32, math.MinInt32} {
		for by := range 50 {
			c := first - by
			if first < 0 {
				c = first + by
			}
			asModel(t, whole, whole, []int{c})
			asModel(t, whole, whole, []int{3, c, c, c, c})
			asModel(t, whole, whole, []int{3, 3, c, c, c, c})
			asModel(t, whole, rect(0, 0, 40, 24), []int{c, c, c, c, c})
		}
	}
	for _, c := range far() {
		asModel(t, whole, whole, []int{c})
		asModel(t, whole, rect(0, 0, 24, 16), []int{c})
	}
}

// Every way in which an area lies over a square, about its edges and its corners, within it and around it: with no choices, with all split and with mixed ones (P16.2).
func TestBlocksOfAllAreas(t *testing.T) {
	d := draws(161)
	r := rect(64, 128, 64, 64)
	var across [][2]int
	for from := -8; from <= 72; from += 8 {
		for to := from + 8; to <= 80; to += 8 {
			across = append(across, [2]int{from, to})
		}
	}
	for _, x := range across {
		for _, y := range across {
			a := rect(r.X+x[0], r.Y+y[0], x[1]-x[0], y[1]-y[0])
			asModel(t, r, a, nil)
			asModel(t, r, a, all())
			asModel(t, r, a, d.choices(d.below(30)))
		}
	}
}

// Squares and areas at both ends of where they may be and how great areas may be (P16.2).
func TestBlocksAtEnds(t *testing.T) {
	places := []int{0, 8, 64, 960, 1016, 1024}
	lengths := []int{8, 16, 64, 72, 1016, 1024}
	some := [][]int{nil, {3, 1, 2, 3, 7}, all()}
	for _, x := range places {
		for _, y := range places {
			r := region(x, y, 64)
			for _, ax := range places {
				for _, ay := range places {
					for i, w := range lengths {
						asModel(t, r, rect(ax, ay, w, lengths[(i+1)%len(lengths)]), some[i%3])
						asModel(t, r, rect(ax, ay, lengths[(i+2)%len(lengths)], w), some[(i+1)%3])
						asModel(t, r, rect(ax, ay, w, w), some[(i+2)%3])
					}
				}
			}
		}
	}
	far := rect(1024, 1024, 64, 64)
	blocksAre(t, far, rect(1024, 1024, 1024, 1024), []int{0}, 1, far)
	blocksAre(t, far, rect(0, 0, 1024, 1024), []int{0}, 0)
	blocksAre(t, far, rect(8, 8, 1024, 1024), []int{0}, 0, rect(1024, 1024, 8, 8))
}

// Squares, at places that are no multiples of 64 too, with any areas and any choices (P16.2).
func TestBlocks(t *testing.T) {
	d := draws(162)
	for range 40000 {
		r := region(8*d.below(129), 8*d.below(129), 64)
		asModel(t, r, d.area(r), d.choices(d.one(0, 1, 2, 3, 5, 10, 21, 22, 60)))
	}
}
