package modes

import (
	"zoetrope/api"
	"zoetrope/grid"
	"zoetrope/syms"
)

// Signs of what moves colour by its brightness.
const (
	still = iota
	below
	above
	signs // how many
)

// coding is a block that is being coded: whoever writes has all of it, whoever reads its shape, and then what was read.
type coding struct {
	coder         *syms.Coder
	grid          *grid.Grid
	key, lossless bool
	block         api.Block
}

// code codes all of a block. Where it is, and what whoever writes hands in, has been looked at: neither the grid's calls nor the coder's can fail.
func (x *coding) code() api.Errno {
	b := &x.block
	context, _ := x.grid.Skip(b.X, b.Y)
	b.Skip = x.truth(api.SymSkip, context, b.Skip)
	if !x.key {
		context, _ = x.grid.Inter(b.X, b.Y)
		b.Inter = x.truth(api.SymInter, context, b.Inter)
	}
	if !b.Inter {
		x.intra(b)
	}
	x.size(b)
	if b.Inter {
		return x.inter(b)
	}
	return api.OK
}

func (x *coding) intra(b *api.Block) {
	delta := func(delta, mode int) int {
		if !isDirectional(mode) {
			return 0
		}
		return x.symbol(api.SymDelta, mode-api.ModeV, delta+mostDelta) - mostDelta
	}
	b.YMode = x.symbol(api.SymYMode, log(greatest(*b))-3, b.YMode)
	b.YDelta = delta(b.YDelta, b.YMode)
	kind := api.SymUVMode
	if hasCfl(*b) {
		kind = api.SymUVCfl
	}
	b.UVMode = x.symbol(kind, 0, b.UVMode)
	b.UVDelta = delta(b.UVDelta, b.UVMode)
	if b.UVMode == api.ModeCfl {
		x.cfl(b)
	}
}

// cfl codes how colour is moved by its brightness: both signs in one, of which still twice can't be.
func (x *coding) cfl(b *api.Block) {
	both := x.symbol(api.SymCflSign, 0, signs*sign(b.CflU)+sign(b.CflV)-1) + 1
	moved := func(by, sign, context int) int {
		if sign == still {
			return 0
		}
		by = x.symbol(api.SymCflMag, context, max(by, -by)-1) + 1
		if sign == below {
			return -by
		}
		return by
	}
	b.CflU = moved(b.CflU, both/signs, 0)
	b.CflV = moved(b.CflV, both%signs, 1)
}

func sign(n int) int {
	switch {
	case n < 0:
		return below
	case n > 0:
		return above
	}
	return still
}

// size codes the size of a block's transforms, where there are several that it may have.
func (x *coding) size(b *api.Block) {
	most := greatest(*b)
	kind, context := api.SymTx, log(most)-4
	if most == 8 {
		kind, context = api.SymTx8, 0
	}
	switch {
	case x.lossless:
		b.TxSize = leastSize
	case b.Skip && b.Inter:
		b.TxSize = most
	default:
		b.TxSize = most >> x.symbol(kind, context, log(most)-log(b.TxSize))
	}
}

// symbol codes a symbol's value.
func (x *coding) symbol(kind, context, value int) int {
	value, _ = x.coder.Symbol(kind, context, value)
	return value
}

// truth codes whether something is so.
func (x *coding) truth(kind, context int, so bool) bool {
	return x.symbol(kind, context, number(so)) == 1
}

// bits codes a number of n bits.
func (x *coding) bits(n, value int) int {
	value, _ = x.coder.Bits(n, value)
	return value
}
