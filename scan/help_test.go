package scan_test

import (
	"math"
	"math/bits"
	"testing"

	"zoetrope/api"
	"zoetrope/scan"
)

func sizes() []int { return []int{4, 8, 16, 32, 64} }

// sideOf is a size's side; 0, where there is no such size.
func sideOf(size int) int {
	for i, n := range sizes() {
		if n == size {
			return [...]int{4, 8, 16, 32, 32}[i]
		}
	}
	return 0
}

// places is how many levels a size's block has.
func places(size int) int { return sideOf(size) * sideOf(size) }

// far are numbers far away, some of whose lower bits look as if they might be a size, an end or a place.
func far() []int {
	l := []int{math.MaxInt, math.MaxInt - 1, math.MinInt, math.MinInt + 1, math.MinInt + 4, math.MaxInt32, math.MinInt32, math.MinInt32 + 1, 1 << 30, -1 << 30}
	if bits.UintSize > 32 {
		for _, v := range []int{0, 1, 3, 4, 8, 64, -1, -4} {
			for at := 32; at < bits.UintSize; at++ {
				l = append(l, v+1<<at, v-1<<at)
			}
		}
	}
	return l
}

// noSizes are numbers below 0, 0, those just beside each size, and others that are none.
func noSizes() []int {
	l := []int{-64, -32, -16, -8, -4, -2, -1, 128, 256, 512, 1024, 1 << 16}
	for _, size := range sizes() {
		l = append(l, size-1, size+1, size+2, 3*size, size<<8, size<<16)
	}
	for n := range 130 {
		if sideOf(n) == 0 {
			l = append(l, n)
		}
	}
	return append(l, far()...)
}

// noPlaces are numbers just beyond both ends of a block's places, and far beyond them.
func noPlaces(size int) []int {
	n := places(size)
	return append([]int{-1, -2, -sideOf(size), -n, 1 - n, n, n + 1, n + sideOf(size), 2 * n, 4096, 1 << 16}, far()...)
}

// call is Base or More, with what it counts.
type call struct {
	name string
	do   func(levels []int, size, at int) (int, api.Errno)
	near [][2]int // neighbours, by how far down and how far to the right
	each int      // how much a neighbour counts at most
	most int
}

func calls() []call {
	return []call{
		{"Base", scan.Base, [][2]int{{0, 1}, {1, 0}, {1, 1}, {0, 2}, {2, 0}}, 3, 4},
		{"More", scan.More, [][2]int{{0, 1}, {1, 0}, {1, 1}}, 15, 6},
	}
}

// model is the context that a call is to answer: neighbours are counted off one by one, half a context each.
func (c call) model(levels []int, size, at int) int {
	side := sideOf(size)
	s := 0
	for _, n := range c.near {
		r, column := at/side+n[0], at%side+n[1]
		if r == side || r == side+1 || column == side || column == side+1 {
			continue
		}
		s += counted(levels[r*side+column], c.each)
	}
	context := 0
	for ; s > 0 && context < c.most; s -= 2 {
		context++
	}
	return context
}

// counted goes from a level towards 0 until it is there or has gone far enough.
func counted(level, each int) int {
	n := 0
	for ; level != 0 && n < each; n++ {
		if level < 0 {
			level++
		} else {
			level--
		}
	}
	return n
}

// answers asks a call for just this.
func (c call) answers(t *testing.T, levels []int, size, at, want int) {
	t.Helper()
	if got, e := c.do(levels, size, at); got != want || e != api.OK {
		t.Errorf("%s of size %d at %d: %d, %d, want %d", c.name, size, at, got, e, want)
	}
}

// check asks a call for what it is to answer of what may be. (It is called by the million: to mark it as a helper would take time.)
func (c call) check(t *testing.T, levels []int, size, at int) {
	want := c.model(levels, size, at)
	if got, e := c.do(levels, size, at); got != want || e != api.OK {
		t.Fatalf("%s of size %d at %d: %d, %d, want %d", c.name, size, at, got, e, want)
	}
}

// refused asks a call for ErrArg, and for nothing beside it.
func (c call) refused(t *testing.T, levels []int, size, at int) {
	t.Helper()
	if got, e := c.do(levels, size, at); got != 0 || e != api.ErrArg {
		t.Fatalf("%s of %d levels, size %d, at %d: %d, %d", c.name, len(levels), size, at, got, e)
	}
}

// ordered is an order that there must be.
func ordered(t *testing.T, size int) []int {
	t.Helper()
	l, e := scan.Order(size)
	if e != api.OK {
		t.Fatalf("Order(%d): %d", size, e)
	}
	return l
}

// draws is a row of numbers that look mixed and are always the same.
type draws uint64

func (d *draws) below(n int) int {
	*d = *d*6364136223846793005 + 1442695040888963407
	return int(uint64(*d) >> 33 % uint64(n))
}

// levels are n numbers, at most so far from 0.
func (d *draws) levels(n, most int) []int {
	l := make([]int, n)
	for i := range l {
		l[i] = d.below(2*most+1) - most
	}
	return l
}

// alike are n times one number.
func alike(n, v int) []int {
	l := make([]int, n)
	for i := range l {
		l[i] = v
	}
	return l
}
