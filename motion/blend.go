package motion

import (
	"zoetrope/api"
	"zoetrope/plane"
)

const (
	leastDepth = 4
	mostDepth  = 32
	mostSide   = 64 // of own samples
	wholeBits  = 6
	whole      = 1 << wholeBits // what own and other weigh together
	half       = whole / 2
)

// Weights are how much a block's own samples weigh beside a neighbour's, n rows or columns deep: the nearer to it, the less.
func Weights(n int) ([]int, api.Errno) {
	if n < leastDepth || n > mostDepth {
		return nil, api.ErrArg
	}
	weights := make([]int, n)
	for i := range weights {
		weights[i] = half + (2*i+1)*half/(2*n)
	}
	return weights, api.OK
}

// Above is own samples, in rows of w, blended in r with what the neighbour above predicts.
func Above(own []uint8, w int, r api.Rect, other []uint8) ([]uint8, api.Errno) {
	weights, err := Weights(r.H)
	if err != api.OK {
		return nil, err
	}
	return blended(own, w, r, other, func(x, y int) int { return weights[y] })
}

// Left is own samples, in rows of w, blended in r with what the neighbour to the left predicts.
func Left(own []uint8, w int, r api.Rect, other []uint8) ([]uint8, api.Errno) {
	weights, err := Weights(r.W)
	if err != api.OK {
		return nil, err
	}
	return blended(own, w, r, other, func(x, y int) int { return weights[x] })
}

// blended is own samples with those in r blended; weight tells how much of its own a place of r keeps. Own samples are a plane, so what lies within them, and what becomes of the rest, is as there.
func blended(own []uint8, w int, r api.Rect, other []uint8, weight func(x, y int) int) ([]uint8, api.Errno) {
	if w < 1 || w > mostSide || len(own) > w*mostSide {
		return nil, api.ErrArg
	}
	p := api.Plane{W: w, H: len(own) / w, Pix: own}
	block, err := plane.Cut(p, r)
	if err != api.OK || len(other) != len(block) {
		return nil, api.ErrArg
	}
	for i, sample := range block {
		k := weight(i%r.W, i/r.W)
		block[i] = uint8((k*int(sample) + (whole-k)*int(other[i]) + half) >> wholeBits)
	}
	p, err = plane.Lay(p, r, block)
	return p.Pix, err
}
