package scan_test

import (
	"math"
	"testing"
)

// block is 4 by 4 levels, noughts but for those of some places.
func block(set map[int]int) []int {
	l := make([]int, 16)
	for at, v := range set {
		l[at] = v
	}
	return l
}

// The chapter's examples (P10.3).
func TestExamples(t *testing.T) {
	base, more := calls()[0], calls()[1]
	l := block(map[int]int{1: 5, 4: -2, 5: 1})
	base.answers(t, l, 4, 0, 3)
	more.answers(t, l, 4, 0, 4)
	base.answers(t, l, 4, 1, 1)
	base.answers(t, l, 4, 15, 0)
	base.refused(t, make([]int, 15), 4, 0)
	base.refused(t, make([]int, 16), 4, 16)
}

// Sums just below, just at and beyond what they are brought to, and each sum on the way there (P10.3).
func TestSums(t *testing.T) {
	base, more := calls()[0], calls()[1]
	places := []int{1, 4, 5, 2, 8} // the neighbours of 0
	for s, want := range []int{0, 1, 1, 2, 2, 3, 3, 4, 4, 4, 4, 4, 4, 4, 4, 4} {
		l, rest := make([]int, 16), s
		for _, at := range places {
			l[at] = min(rest, 3)
			rest -= l[at]
		}
		base.answers(t, l, 4, 0, want)
	}
	for s, want := range []int{0, 1, 1, 2, 2, 3, 3, 4, 4, 5, 5, 6, 6, 6, 6, 6} {
		more.answers(t, block(map[int]int{1: s}), 4, 0, want)
		more.answers(t, block(map[int]int{1: s / 2, 4: -(s - s/2)}), 4, 0, want)
		more.answers(t, block(map[int]int{5: -s}), 4, 0, want)
	}
	for _, s := range []int{15, 16, 30, 45, 1000} {
		more.answers(t, block(map[int]int{1: s, 4: s, 5: -s}), 4, 0, 6)
		base.answers(t, block(map[int]int{1: s, 4: s, 5: -s, 2: s, 8: -s}), 4, 0, 4)
	}
}

// What one neighbour counts at most: 3 of Base, so that another 1 is seen; of More 15, which is beyond what sums are brought to (P10.3).
func TestEachCountsSoMuch(t *testing.T) {
	base, more := calls()[0], calls()[1]
	for v, want := range []int{0, 1, 1, 2, 2, 2, 2} {
		for _, at := range []int{1, 2, 4, 5, 8} {
			base.answers(t, block(map[int]int{at: v}), 4, 0, want)
			base.answers(t, block(map[int]int{at: -v}), 4, 0, want)
		}
	}
	for _, v := range []int{3, 4, 5, 15, 16, 1 << 20, math.MaxInt, -3, -4, -1 << 20, math.MinInt} {
		base.answers(t, block(map[int]int{1: v}), 4, 0, 2)
		base.answers(t, block(map[int]int{1: v, 8: 1}), 4, 0, 2)
		base.answers(t, block(map[int]int{1: v, 8: -2}), 4, 0, 3)
		base.answers(t, block(map[int]int{1: v, 8: v}), 4, 0, 3)
		base.answers(t, block(map[int]int{2: v, 5: v, 4: 1}), 4, 0, 4)
	}
	for v, want := range []int{0, 1, 1, 2, 2, 3, 3, 4, 4, 5, 5, 6, 6, 6, 6, 6, 6, 6} {
		for _, at := range []int{1, 4, 5} {
			more.answers(t, block(map[int]int{at: v}), 4, 0, want)
			more.answers(t, block(map[int]int{at: -v}), 4, 0, want)
		}
	}
}

// Levels at both ends of what a number may be count as great, the least number without its sign among them (P10.3).
func TestGreatLevels(t *testing.T) {
	base, more := calls()[0], calls()[1]
	for _, v := range append(far(), 1<<20, -1<<20, 1<<16, -1<<16, 1<<8, -1<<8, 1<<31-1, 1<<15, -1<<15) {
		for _, at := range []int{1, 4, 5} {
			base.answers(t, block(map[int]int{at: v}), 4, 0, 2)
			more.answers(t, block(map[int]int{at: v}), 4, 0, 6)
		}
		for _, size := range sizes() {
			l := alike(places(size), v)
			for at := range l {
				base.check(t, l, size, at)
				more.check(t, l, size, at)
			}
		}
	}
}

// One level alone, at each place of each size: who sees it are those whose neighbour it is, in each corner and along each edge, too (P10.3).
func TestSingleLevels(t *testing.T) {
	for _, size := range sizes() {
		l := make([]int, places(size))
		for set := range l {
			for _, v := range []int{-2, 15} {
				l[set] = v
				for at := range l {
					for _, c := range calls() {
						c.check(t, l, size, at)
					}
				}
			}
			l[set] = 0
		}
	}
}

// Neighbours outside the block count as 0, though the rows stand one behind the other: in the corners and along the right and the lower edge, by hand (P10.3).
func TestOutsideNeighbours(t *testing.T) {
	base, more := calls()[0], calls()[1]
	for _, size := range sizes() {
		n := sideOf(size)
		l := alike(n*n, 1)
		for _, x := range []struct{ r, c, base, more int }{ // of five, three, and what is left of them
			{0, 0, 3, 2}, {n - 3, n - 3, 3, 2},
			{0, n - 2, 2, 2}, {n - 3, n - 2, 2, 2}, // four, three
			{n - 2, 0, 2, 2}, {n - 2, n - 3, 2, 2}, // four, three
			{n - 2, n - 2, 2, 2},                   // three, three
			{0, n - 1, 1, 1}, {n - 3, n - 1, 1, 1}, // two, one
			{n - 1, 0, 1, 1}, {n - 1, n - 3, 1, 1}, // two, one
			{n - 2, n - 1, 1, 1}, {n - 1, n - 2, 1, 1}, // one, one
			{n - 1, n - 1, 0, 0},
		} {
			base.answers(t, l, size, x.r*n+x.c, x.base)
			more.answers(t, l, size, x.r*n+x.c, x.more)
		}
	}
}

// All amounts that count apart, with either sign, of all neighbours at once (P10.3).
func TestAllNeighbours(t *testing.T) {
	for _, size := range []int{4, 8, 64} {
		side := sideOf(size)
		at := side*(side-3) + side - 3
		l := alike(side*side, 9)
		for k := range 4 * 4 * 4 * 4 * 4 * 2 {
			rest, sign := k/2, k%2*2-1
			for _, n := range calls()[0].near {
				l[at+n[0]*side+n[1]] = rest % 4 * sign
				rest, sign = rest/4, -sign
			}
			calls()[0].check(t, l, size, at)
		}
		for k := range 17 * 17 * 17 * 2 {
			rest, sign := k/2, k%2*2-1
			for _, n := range calls()[1].near {
				l[at+n[0]*side+n[1]] = rest % 17 * sign
				rest, sign = rest/17, -sign
			}
			calls()[1].check(t, l, size, at)
		}
	}
}

// Mixed blocks of each size, at every place (P10.3).
func TestMixedBlocks(t *testing.T) {
	d := draws(3)
	for _, size := range sizes() {
		for _, most := range []int{0, 1, 2, 3, 4, 5, 14, 15, 16, 17, 1 << 20} {
			for range 3 {
				l := d.levels(places(size), most)
				for at := range l {
					for _, c := range calls() {
						c.check(t, l, size, at)
					}
				}
			}
		}
	}
}

// Sums of the greatest levels do not wrap round: each counts no more than it may, ahead of the sum (P10.3).
func TestContextsStayBounded(t *testing.T) {
	for _, size := range sizes() {
		for _, v := range []int{math.MaxInt, math.MinInt, math.MinInt + 1, math.MaxInt / 2, math.MaxInt/3 + 1} {
			l := alike(places(size), v)
			for _, c := range calls() {
				c.answers(t, l, size, 0, c.most)
			}
		}
	}
}
