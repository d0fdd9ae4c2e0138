package grid

import (
	"zoetrope/api"
)

const lastRef = 2 // of those that a frame refers to

// Part is the context of a region's partition.
func (g *Grid) Part(x, y, size int) (int, api.Errno) {
	if g.isNone() {
		return 0, api.ErrNil
	}
	if size != 64 && size != 32 && size != 16 || !g.mayAsk(x, y, size) {
		return 0, api.ErrArg
	}
	above := g.count(x, y-1, func(b api.Block) bool { return b.W < size })
	left := g.count(x-1, y, func(b api.Block) bool { return b.H < size })
	return above + 2*left, api.OK
}

// Skip is how many of the two neighbours are skipped.
func (g *Grid) Skip(x, y int) (int, api.Errno) {
	return g.both(x, y, func(b api.Block) bool { return b.Skip })
}

// Inter is how many of the two neighbours come out of other frames.
func (g *Grid) Inter(x, y int) (int, api.Errno) {
	return g.both(x, y, func(b api.Block) bool { return b.Inter })
}

// Vecs are candidates for a motion vector, and how many of them there are.
func (g *Grid) Vecs(r api.Rect, ref int) ([2]api.Vec, int, api.Errno) {
	var vecs [2]api.Vec
	if g.isNone() {
		return vecs, 0, api.ErrNil
	}
	if !g.mayAsk(r.X, r.Y, cellSide) || !isMultiple(r.W, cellSide, cellSide, api.SuperSize) || ref < 0 || ref > lastRef {
		return vecs, 0, api.ErrArg
	}
	n := 0
	for _, at := range [4][2]int{{r.X - 1, r.Y}, {r.X, r.Y - 1}, {r.X + r.W, r.Y - 1}, {r.X - 1, r.Y - 1}} {
		b, _ := g.At(at[0], at[1])
		v, ok := vecOf(b, ref)
		if ok && (n == 0 || n == 1 && v != vecs[0]) {
			vecs[n] = v
			n++
		}
	}
	return vecs, n, api.OK
}

// vecOf is the vector by which a block comes out of a frame, if it does; the zero block, which stands where nothing is known, does not.
func vecOf(b api.Block, ref int) (api.Vec, bool) {
	switch {
	case !b.Inter:
		return api.Vec{}, false
	case b.Ref[0] == ref:
		return b.Mv[0], true
	case b.Comp && b.Ref[1] == ref:
		return b.Mv[1], true
	}
	return api.Vec{}, false
}

// both counts the upper neighbour and the left one.
func (g *Grid) both(x, y int, counts func(b api.Block) bool) (int, api.Errno) {
	if g.isNone() {
		return 0, api.ErrNil
	}
	if !g.mayAsk(x, y, cellSide) {
		return 0, api.ErrArg
	}
	return g.count(x, y-1, counts) + g.count(x-1, y, counts), api.OK
}

// count is 1, if a block is known at a place and counts; else 0.
func (g *Grid) count(x, y int, counts func(b api.Block) bool) int {
	if b, ok := g.At(x, y); ok && counts(b) {
		return 1
	}
	return 0
}

// mayAsk tells whether a place in the tile is where something of this size may be.
func (g *Grid) mayAsk(x, y, size int) bool {
	return x%size == 0 && y%size == 0 && g.has(x, y)
}
