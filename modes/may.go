package modes

import (
	"math/bits"

	"zoetrope/api"
)

const (
	cellSide   = 8
	lastPlace  = api.MaxSide - cellSide // where a block may begin
	mostOblong = 4                      // times a side the other one may be
	mostOfCfl  = 32                     // of a side, where colour may come of brightness
	leastSize  = 4                      // of a transform
	mostDelta  = 3
	mostCfl    = 16
	lastRef    = 2
)

// mayBeShape tells whether a block may be there, and so wide and high.
func mayBeShape(b api.Block) bool {
	isPlace := func(n int) bool { return n%cellSide == 0 && within(n, 0, lastPlace) }
	isSide := func(n int) bool { return n == 8 || n == 16 || n == 32 || n == 64 }
	return isPlace(b.X) && isPlace(b.Y) && isSide(b.W) && isSide(b.H) && b.W <= mostOblong*b.H && b.H <= mostOblong*b.W
}

// mayBeSize tells whether a block of a shape that may be may have its transforms' size.
func mayBeSize(b api.Block, lossless bool) bool {
	most := greatest(b)
	switch {
	case lossless:
		return b.TxSize == leastSize
	case b.Skip && b.Inter:
		return b.TxSize == most
	}
	return b.TxSize == most || b.TxSize == most/2 || b.TxSize == most/4 && b.TxSize >= leastSize
}

// mayBeIntra tells whether a block is predicted out of its edges as one may be. What it says of other frames is zero in the one that it would be.
func mayBeIntra(b api.Block) bool {
	would := api.Block{
		X: b.X, Y: b.Y, W: b.W, H: b.H, Skip: b.Skip, TxSize: b.TxSize,
		YMode: b.YMode, YDelta: b.YDelta, UVMode: b.UVMode, UVDelta: b.UVDelta, CflU: b.CflU, CflV: b.CflV,
	}
	isDelta := func(delta, mode int) bool {
		return delta == 0 || within(delta, -mostDelta, mostDelta) && isDirectional(mode)
	}
	if b != would || !within(b.YMode, 0, api.ModePaeth) || !isDelta(b.YDelta, b.YMode) || !isDelta(b.UVDelta, b.UVMode) {
		return false
	}
	moved := b.CflU != 0 || b.CflV != 0
	if b.UVMode == api.ModeCfl {
		return hasCfl(b) && moved && within(b.CflU, -mostCfl, mostCfl) && within(b.CflV, -mostCfl, mostCfl)
	}
	return within(b.UVMode, 0, api.ModePaeth) && !moved
}

// mayBeInter tells whether a block is predicted out of other frames as one may be. What it says of its edges is zero in the one that it would be.
func mayBeInter(b api.Block) bool {
	would := api.Block{
		X: b.X, Y: b.Y, W: b.W, H: b.H, Skip: b.Skip, TxSize: b.TxSize,
		Inter: true, Comp: b.Comp, MvMode: b.MvMode, Filter: b.Filter, Obmc: b.Obmc && !b.Comp,
	}
	for i := range vecs(b) {
		would.Ref[i], would.Mv[i] = b.Ref[i], b.Mv[i]
		if !within(b.Ref[i], 0, lastRef) || !mayBeVec(b.Mv[i]) {
			return false
		}
	}
	return b == would && within(b.MvMode, api.MvNearest, api.MvNew) && within(b.Filter, api.FilterRegular, api.FilterBilinear)
}

func mayBeVec(v api.Vec) bool {
	return within(v.X, -api.MaxVec, api.MaxVec) && within(v.Y, -api.MaxVec, api.MaxVec)
}

// vecs is how many vectors a block has that comes out of other frames.
func vecs(b api.Block) int { return 1 + number(b.Comp) }

// greatest is a block's greatest transform.
func greatest(b api.Block) int { return min(b.W, b.H) }

// hasCfl tells whether a block's colour may come of its brightness.
func hasCfl(b api.Block) bool { return max(b.W, b.H) <= mostOfCfl }

func isDirectional(mode int) bool { return within(mode, api.ModeV, api.ModeD67) }

func within(n, least, most int) bool { return least <= n && n <= most }

// log is the greatest k with 2^k at most n.
func log(n int) int { return bits.Len(uint(n)) - 1 }

// number is what something that is so or not is coded as.
func number(so bool) int {
	if so {
		return 1
	}
	return 0
}
