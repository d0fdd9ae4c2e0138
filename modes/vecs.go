package modes

import (
	"zoetrope/api"
)

const (
	fracBits  = 3
	mostClass = 10
	mostApart = (2<<mostClass - 1) << fracBits // of a vector's part and a candidate's: no class says more
)

// agrees tells whether a block, which may be, has the vectors that it would have as its grid stands.
func (x *coding) agrees() bool {
	b := x.block
	if !b.Inter {
		return true
	}
	would := b
	for i := range vecs(b) {
		near, _ := x.near(b.Ref[i])
		v, ok := said(b.MvMode, near)
		if ok {
			would.Mv[i] = v
		} else if !isNear(b.Mv[i].X, near[0].X) || !isNear(b.Mv[i].Y, near[0].Y) {
			return false
		}
	}
	return b == would
}

// isNear tells whether a difference can be said. Grids take blocks that may not be, too, whose vectors may be as long as numbers go: so no difference is made here.
func isNear(part, candidate int) bool { return within(candidate, part-mostApart, part+mostApart) }

// near are a block's candidates for a vector into a frame, and how many there are.
func (x *coding) near(ref int) ([2]api.Vec, int) {
	b := x.block
	near, n, _ := x.grid.Vecs(api.Rect{X: b.X, Y: b.Y, W: b.W, H: b.H}, ref)
	return near, n
}

// said is the vector that a way to one says by itself, if it does.
func said(mode int, near [2]api.Vec) (api.Vec, bool) {
	switch mode {
	case api.MvNearest:
		return near[0], true
	case api.MvNear:
		return near[1], true
	}
	return api.Vec{}, mode == api.MvZero
}

// inter codes how a block comes out of other frames.
func (x *coding) inter(b *api.Block) api.Errno {
	b.Comp = x.truth(api.SymComp, 0, b.Comp)
	for i := range vecs(*b) {
		b.Ref[i] = x.symbol(api.SymRef, i, b.Ref[i])
	}
	_, n := x.near(b.Ref[0])
	b.MvMode = x.symbol(api.SymMvMode, n, b.MvMode)
	for i := range vecs(*b) {
		near, _ := x.near(b.Ref[i])
		v, ok := said(b.MvMode, near)
		if !ok {
			v = x.moved(b.Mv[i], near[0])
		}
		if !mayBeVec(v) {
			return api.ErrSyntax
		}
		b.Mv[i] = v
	}
	b.Filter = x.symbol(api.SymFilter, 0, b.Filter)
	if !b.Comp {
		b.Obmc = x.truth(api.SymObmc, 0, b.Obmc)
	}
	return api.OK
}

// moved codes a vector by its difference to a candidate.
func (x *coding) moved(v, from api.Vec) api.Vec {
	joint := x.symbol(api.SymMvJoint, 0, number(v.X != from.X)+2*number(v.Y != from.Y))
	if joint&1 == 1 {
		from.X += x.apart(v.X-from.X, 0)
	}
	if joint&2 == 2 {
		from.Y += x.apart(v.Y-from.Y, 1)
	}
	return from
}

// apart codes a difference, which is not 0.
func (x *coding) apart(n, context int) int {
	isBelow := x.bits(1, number(n < 0)) == 1
	n = max(n, -n) - 1
	long := n>>fracBits + 1
	class := x.symbol(api.SymMvClass, context, log(long))
	long = 1<<class + x.bits(class, long-1<<class)
	n = (long-1)<<fracBits + x.symbol(api.SymMvFrac, context, n&(1<<fracBits-1)) + 1
	if isBelow {
		return -n
	}
	return n
}
