package cdf

import (
	"zoetrope/api"
)

// narrowest is what each value has at least, so that each can be coded, however little of the table is its own.
const narrowest = 4

// Bounds is a value's part of 32768, from lo up to hi without it.
func Bounds(t api.Table, s int) (lo, hi uint32, e api.Errno) {
	if e := checkValue(t, s); e != api.OK {
		return 0, 0, e
	}
	if s > 0 {
		lo = end(t.C, s-1)
	}
	return lo, end(t.C, s), api.OK
}

// Find is the value in whose part a place is.
func Find(t api.Table, at uint32) (int, api.Errno) {
	if e := Check(t); e != api.OK {
		return 0, e
	}
	if at >= whole {
		return 0, api.ErrArg
	}
	s := 0
	// The last part ends at whole, which is above every place.
	for at >= end(t.C, s) {
		s++
	}
	return s, api.OK
}

// end is where the part of value i ends.
func end(c []uint16, i int) uint32 {
	free := whole - narrowest*uint32(len(c))
	return uint32(c[i])*free>>wholeBits + narrowest*uint32(i+1)
}
