package quant

import (
	"zoetrope/api"
)

const (
	most       = 1 << 20 // how far from 0 a coefficient and a level may be
	mostStep   = 1 << 15
	kept       = 1<<24 - 1 // the bits that are kept of a level times its step
	leastValue = -1 << 15
	mostValue  = 1<<15 - 1
)

// Level is what a coefficient is coded as.
func Level(coef, step, size int) (int, api.Errno) {
	scale, e := scaleFor(coef, step, size)
	if e != api.OK {
		return 0, e
	}
	n := (away(coef)<<scale + step/2) / step
	return signed(min(n, most), coef), api.OK
}

// Value is the coefficient that a level comes to.
func Value(level, step, size int) (int, api.Errno) {
	scale, e := scaleFor(level, step, size)
	if e != api.OK {
		return 0, e
	}
	// The product needs more than 32 bits, and an int may have no more.
	product := int64(away(level)) * int64(step)
	n := int(product&kept) >> scale
	return clip(signed(n, level), leastValue, mostValue), api.OK
}

// scaleFor is the scale of a size, if a coefficient or a level v, the step and the size may be.
func scaleFor(v, step, size int) (int, api.Errno) {
	if v < -most || v > most || step < 1 || step > mostStep {
		return 0, api.ErrArg
	}
	return scaleOf(size)
}

// scaleOf makes up for the transforms of great blocks, which leave coefficients that are by so many bits less than those of other blocks.
func scaleOf(size int) (int, api.Errno) {
	switch size {
	case 4, 8, 16:
		return 0, api.OK
	case 32:
		return 1, api.OK
	case 64:
		return 2, api.OK
	}
	return 0, api.ErrArg
}

// away is how far a number is from 0.
func away(v int) int { return max(v, -v) }

// signed is n, below 0 if v is.
func signed(n, v int) int {
	if v < 0 {
		return -n
	}
	return n
}
