package cdf

import (
	"math/bits"
	"slices"

	"zoetrope/api"
)

// Adapt is the table behind a value that it has learnt.
func Adapt(t api.Table, s int) (api.Table, api.Errno) {
	if e := checkValue(t, s); e != api.OK {
		return api.Table{}, e
	}
	c := slices.Clone(t.C)
	r := rate(t)
	for i := range len(c) - 1 {
		if i >= s {
			c[i] += (whole - c[i]) >> r
		} else {
			c[i] -= c[i] >> r
		}
	}
	return api.Table{C: c, Count: min(t.Count+1, full)}, api.OK
}

// rate is how slowly a table learns: the more so, the more it has learnt already and the more values it has.
func rate(t api.Table) int {
	r := 3 + min(bits.Len(uint(len(t.C)))-1, 2)
	if t.Count > 15 {
		r++
	}
	if t.Count > 31 {
		r++
	}
	return r
}

// Average is the table between several of as many values, as if it had learnt nothing yet.
func Average(l ...api.Table) (api.Table, api.Errno) {
	if len(l) == 0 {
		return api.Table{}, api.ErrArg
	}
	n := len(l[0].C)
	for _, t := range l {
		if Check(t) != api.OK || len(t.C) != n {
			return api.Table{}, api.ErrArg
		}
	}
	c := make([]uint16, n)
	for i := range c {
		c[i] = middle(i, l...)
	}
	return api.Table{C: c}, api.OK
}

// middle is what element i is on the average, rounded. The sum has 64 bits, because so many tables may be handed in that 32 would not do.
func middle(i int, l ...api.Table) uint16 {
	n := uint64(len(l))
	sum := n / 2
	for _, t := range l {
		sum += uint64(t.C[i])
	}
	return uint16(sum / n)
}
