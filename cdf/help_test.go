package cdf_test

import (
	"math"
	"slices"
	"testing"

	"zoetrope/api"
	"zoetrope/cdf"
)

const all = 32768

// What is expected is worked out in plain numbers, with quotients and loops where the document says shifts and logs.

// table is one of some elements.
func table(count int, c ...uint16) api.Table { return api.Table{C: c, Count: count} }

// counts are both sides of each place where a table begins to learn more slowly, and the ends.
func counts() []int { return []int{0, 1, 14, 15, 16, 17, 30, 31, 32} }

// draws is a row of numbers that look mixed and are always the same.
type draws uint64

func (d *draws) below(n int) int {
	*d = *d*6364136223846793005 + 1442695040888963407
	return int(uint64(*d) >> 33 % uint64(n))
}

// mixed is a table of n values whose elements are of any kind below a bound.
func (d *draws) mixed(n, bound int) api.Table {
	c := make([]uint16, n)
	for i := range c {
		c[i] = uint16(d.below(bound))
	}
	c[n-1] = all
	slices.Sort(c)
	return table(d.below(33), c...)
}

// split is a table whose first k elements are low, and the others but the last are high.
func split(n, k int, low, high uint16) api.Table {
	c := make([]uint16, n)
	for i := range c {
		c[i] = high
		if i < k {
			c[i] = low
		}
	}
	c[n-1] = all
	return table(0, c...)
}

// tables are some of n values that may be: of all sorts, the outermost ones among them.
func tables(t *testing.T, n int) []api.Table {
	t.Helper()
	flat, x := cdf.Flat(n)
	steep, y := cdf.Steep(n)
	if x != api.OK || y != api.OK {
		t.Fatalf("tables of %d: %d, %d", n, x, y)
	}
	l := []api.Table{flat, steep}
	for k := range n {
		l = append(l, split(n, k, 0, all))
	}
	l = append(l, split(n, n/2, 1, all-1), split(n, n/2, 8191, 8192), split(n, n/2, 255, 256))
	d := draws(n)
	for range 6 {
		l = append(l, d.mixed(n, all+1), d.mixed(n, 64), d.mixed(n, 3))
	}
	return l
}

// wrong are tables that may not be.
func wrong() []api.Table {
	rising := func(n int) []uint16 {
		c := make([]uint16, n)
		for i := range c {
			c[i] = uint16(i + 1)
		}
		c[n-1] = all
		return c
	}
	l := []api.Table{
		{}, {C: []uint16{}}, {Count: 1}, table(0, all), table(0, 0),
		table(0, rising(17)...), table(0, rising(18)...), table(0, rising(1000)...), {C: make([]uint16, 17)},
		table(0, 5, 32767), table(0, 5, 32769), table(0, 5, 0), table(0, 0, 0), table(0, 5, 65535), table(0, 40000, 40000), table(0, 1, 2, 3),
		table(0, 32769, all), table(0, 65535, all), table(0, 1, 40000, all),
		table(0, 5, 4, all), table(0, 1, 0, all), table(0, all, 32767, all), table(0, all, 0, all), table(0, 1, 2, 3, 2, all), table(0, 7, 2, 3, 4, all),
		table(-1, 5, all), table(33, 5, all), table(34, 5, all), table(64, 5, all), table(-32, 5, all), table(256, 5, all),
		table(math.MaxInt, 5, all), table(math.MinInt, 5, all),
	}
	for i := range 15 { // one element that is too low, at each place but the first
		c := rising(16)
		c[i], c[i+1] = 300, 299
		l = append(l, table(0, c...))
	}
	return l
}

// outside are values that a table of n values does not have.
func outside(n int) []int {
	return []int{-1, n, -n, n + 1, -2, 17, 64, 256, 65536, math.MaxInt, math.MinInt}
}

// ends are where the parts of a table's values end.
func ends(x api.Table) []uint32 {
	n := len(x.C)
	l := make([]uint32, n)
	for i, c := range x.C {
		l[i] = uint32(int(c)*(32768-4*n)/32768 + 4*(i+1))
	}
	return l
}

// learnt is a table behind a value.
func learnt(x api.Table, s int) api.Table {
	n := len(x.C)
	over := 8
	for k := 2; k <= 4 && k <= n; k *= 2 {
		over *= 2
	}
	for _, c := range []int{15, 31} {
		if x.Count > c {
			over *= 2
		}
	}
	y := api.Table{C: make([]uint16, n), Count: x.Count + 1}
	if y.Count == 33 {
		y.Count = 32
	}
	for i, v := range x.C {
		c := int(v)
		switch {
		case i == n-1:
		case i < s:
			c -= c / over
		default:
			c += (32768 - c) / over
		}
		y.C[i] = uint16(c)
	}
	return y
}

func same(a, b api.Table) bool { return slices.Equal(a.C, b.C) && a.Count == b.Count }

// zero tells whether a table is what stands beside an error.
func zero(x api.Table) bool { return len(x.C) == 0 && x.Count == 0 }

// roomy is a table with spare room behind its elements, and that room as a whole.
func roomy(x api.Table) (api.Table, []uint16) {
	room := append(slices.Clone(x.C), 11, 22, 33, 44)
	return api.Table{C: room[:len(x.C)], Count: x.Count}, room
}

// spoil changes all elements, spare room too.
func spoil(c []uint16) {
	c = c[:cap(c)]
	for i := range c {
		c[i] ^= 0x5a5a
	}
}
