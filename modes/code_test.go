package modes_test

import (
	"fmt"
	"slices"
	"testing"

	"zoetrope/api"
	"zoetrope/grid"
	"zoetrope/syms"
)

// row has blocks coded one behind the other, by a writer and by a reader of what was written, both held against the acts that the chapter tells; the grid stays as it is (P18.2, P18.5).
func row(t *testing.T, s api.Set, adapt bool, g *grid.Grid, f frame, l ...api.Block) {
	t.Helper()
	w, by := writer(t, s, adapt), writer(t, s, adapt)
	for _, b := range l {
		p, was := plan(t, g, b, f), w.Count()
		codes(t, w, g, b, f)
		does(t, by, p...)
		if n := w.Count() - was; n != weight(p) || n > 64 {
			t.Fatalf("%+v of %+v: %d symbols and bits, want %d", b, f, n, weight(p))
		}
	}
	what := fmt.Sprintf("%d blocks, the first one %+v, of %+v", len(l), l[0], f)
	alike(t, what, w, by)
	r := reader(t, written(t, by), s, adapt)
	for _, b := range l {
		codes(t, r, g, b, f)
	}
	alike(t, what+", read", r, w)
}

// byHand asks whether a block is coded by just these acts, worked out by hand, either way.
func byHand(t *testing.T, g *grid.Grid, b api.Block, f frame, l ...act) {
	t.Helper()
	for _, s := range sets(t) {
		for _, adapt := range []bool{true, false} {
			w, by := writer(t, s, adapt), writer(t, s, adapt)
			codes(t, w, g, b, f)
			does(t, by, l...)
			alike(t, fmt.Sprintf("%+v of %+v", b, f), w, by)
			r := reader(t, written(t, by), s, adapt)
			codes(t, r, g, b, f)
			alike(t, fmt.Sprintf("%+v of %+v, read", b, f), r, by)
		}
	}
	if p := plan(t, g, b, f); !slices.Equal(p, l) {
		t.Errorf("the plan of %+v is %v, by hand it is %v", b, p, l)
	}
}

// The chapter's examples: the writer's rows (P18.2).
func TestExamples(t *testing.T) {
	w, g := writer(t, syms.Default(), true), gridOf(t, square())
	codes(t, w, g, but(intra(0, 0, 8, 8), func(b *api.Block) {
		b.YMode, b.YDelta, b.UVMode, b.CflU = api.ModeV, -1, api.ModeCfl, 3
	}), plain)
	if w.Count() != 8 {
		t.Errorf("Count: %d, want 8", w.Count())
	}
	codes(t, w, g, skipped(inter(8, 0, 16, 8, 2, vec(5, 0))), plain)
	if w.Count() != 8+11 {
		t.Errorf("Count: %d, want 11 more", w.Count())
	}
	refused(t, w, g, but(inter(0, 0, 8, 8, 0, vec(1, 0)), func(b *api.Block) { b.MvMode = api.MvNearest }), plain, api.ErrArg)
	refused(t, w, g, but(intra(0, 0, 8, 8), func(b *api.Block) { b.YMode = 13 }), plain, api.ErrArg)
	refused(t, w, g, but(intra(0, 0, 8, 8), func(b *api.Block) { b.TxSize = 16 }), plain, api.ErrArg)
	refused(t, w, g, intra(0, 0, 24, 8), plain, api.ErrArg)
	if w.Count() != 8+11 {
		t.Errorf("what is refused was coded: %d", w.Count())
	}
}

// Intra blocks whose symbols are worked out by hand (P18.2).
func TestIntraByHand(t *testing.T) {
	g := gridOf(t, square())
	byHand(t, g, but(intra(0, 0, 8, 8), func(b *api.Block) {
		b.YMode, b.YDelta, b.UVMode, b.CflU = api.ModeV, -1, api.ModeCfl, 3
	}), plain,
		symbol(api.SymSkip, 0, 0), symbol(api.SymInter, 0, 0),
		symbol(api.SymYMode, 0, 1), symbol(api.SymDelta, 0, 2), symbol(api.SymUVCfl, 0, 13), symbol(api.SymCflSign, 0, 5), symbol(api.SymCflMag, 0, 2),
		symbol(api.SymTx8, 0, 0))
	byHand(t, g, but(skipped(intra(0, 0, 64, 64)), func(b *api.Block) { b.TxSize = 4 }), frame{true, true},
		symbol(api.SymSkip, 0, 1), symbol(api.SymYMode, 3, 0), symbol(api.SymUVMode, 0, 0))
	byHand(t, g, but(intra(0, 0, 32, 32), func(b *api.Block) {
		b.YMode, b.YDelta, b.UVMode, b.UVDelta, b.TxSize = api.ModeD67, 3, api.ModeD45, -3, 8
	}), frame{true, false},
		symbol(api.SymSkip, 0, 0),
		symbol(api.SymYMode, 2, 8), symbol(api.SymDelta, 7, 6), symbol(api.SymUVCfl, 0, 3), symbol(api.SymDelta, 2, 0),
		symbol(api.SymTx, 1, 2))
	byHand(t, g, but(skipped(intra(16, 0, 16, 64)), func(b *api.Block) { b.YMode, b.UVMode, b.TxSize = api.ModePaeth, api.ModeH, 8 }), plain,
		symbol(api.SymSkip, 0, 1), symbol(api.SymInter, 0, 0),
		symbol(api.SymYMode, 1, 12), symbol(api.SymUVMode, 0, 2), symbol(api.SymDelta, 1, 3),
		symbol(api.SymTx, 0, 1))
	byHand(t, g, but(intra(0, 0, 64, 32), func(b *api.Block) { b.YMode, b.UVMode = api.ModeSmooth, api.ModeSmoothH }), plain,
		symbol(api.SymSkip, 0, 0), symbol(api.SymInter, 0, 0), symbol(api.SymYMode, 2, 9), symbol(api.SymUVMode, 0, 11), symbol(api.SymTx, 1, 0))
	byHand(t, g, but(intra(0, 0, 64, 64), func(b *api.Block) { b.TxSize = 16 }), plain,
		symbol(api.SymSkip, 0, 0), symbol(api.SymInter, 0, 0), symbol(api.SymYMode, 3, 0), symbol(api.SymUVMode, 0, 0), symbol(api.SymTx, 2, 2))
	byHand(t, g, but(intra(0, 0, 8, 32), func(b *api.Block) { b.UVMode, b.CflU, b.CflV, b.TxSize = api.ModeCfl, -16, 16, 4 }), plain,
		symbol(api.SymSkip, 0, 0), symbol(api.SymInter, 0, 0),
		symbol(api.SymYMode, 0, 0), symbol(api.SymUVCfl, 0, 13), symbol(api.SymCflSign, 0, 4), symbol(api.SymCflMag, 0, 15), symbol(api.SymCflMag, 1, 15),
		symbol(api.SymTx8, 0, 1))
	byHand(t, g, but(intra(0, 0, 16, 16), func(b *api.Block) { b.UVMode, b.CflV, b.TxSize = api.ModeCfl, -1, 4 }), frame{false, true},
		symbol(api.SymSkip, 0, 0), symbol(api.SymInter, 0, 0),
		symbol(api.SymYMode, 1, 0), symbol(api.SymUVCfl, 0, 13), symbol(api.SymCflSign, 0, 0), symbol(api.SymCflMag, 1, 0))
}

// neighbours are about a block at 16 16: two that come out of other frames, one of which is skipped, and an intra one.
func neighbours(t *testing.T) *grid.Grid {
	t.Helper()
	return gridOf(t, square(),
		skipped(inter(8, 16, 8, 8, 1, vec(3, -4))),                 // to the left
		intra(16, 8, 8, 8),                                         // above
		comp(24, 8, 8, 8, 2, vec(100, -100), 1, vec(-4095, 4095)),  // above, to the right of one of 8
		skipped(inter(0, 0, 16, 16, 2, vec(-1, 7))),                // at the corner
		skipped(comp(32, 0, 16, 16, 0, vec(9, 9), 1, vec(-11, 3))), // above, to the right of one of 16
	)
}

// Inter blocks whose symbols are worked out by hand (P18.2).
func TestInterByHand(t *testing.T) {
	g := gridOf(t, square())
	byHand(t, g, skipped(inter(8, 0, 16, 8, 2, vec(5, 0))), plain,
		symbol(api.SymSkip, 0, 1), symbol(api.SymInter, 0, 1),
		symbol(api.SymComp, 0, 0), symbol(api.SymRef, 0, 2), symbol(api.SymMvMode, 0, 3),
		symbol(api.SymMvJoint, 0, 1), raw(1, 0), symbol(api.SymMvClass, 0, 0), symbol(api.SymMvFrac, 0, 4),
		symbol(api.SymFilter, 0, 0), symbol(api.SymObmc, 0, 0))
	byHand(t, g, but(inter(0, 0, 32, 64, 0, vec(-25, 4095)), func(b *api.Block) { b.Filter, b.Obmc, b.TxSize = 2, true, 16 }), plain,
		symbol(api.SymSkip, 0, 0), symbol(api.SymInter, 0, 1), symbol(api.SymTx, 1, 1),
		symbol(api.SymComp, 0, 0), symbol(api.SymRef, 0, 0), symbol(api.SymMvMode, 0, 3),
		symbol(api.SymMvJoint, 0, 3),
		raw(1, 1), symbol(api.SymMvClass, 0, 2), raw(2, 0), symbol(api.SymMvFrac, 0, 0),
		raw(1, 0), symbol(api.SymMvClass, 1, 9), raw(9, 0), symbol(api.SymMvFrac, 1, 6),
		symbol(api.SymFilter, 0, 2), symbol(api.SymObmc, 0, 1))
	byHand(t, g, but(inter(0, 0, 8, 16, 1, vec(0, 0)), func(b *api.Block) { b.MvMode, b.Filter, b.TxSize = api.MvZero, 1, 4 }), plain,
		symbol(api.SymSkip, 0, 0), symbol(api.SymInter, 0, 1), symbol(api.SymTx8, 0, 1),
		symbol(api.SymComp, 0, 0), symbol(api.SymRef, 0, 1), symbol(api.SymMvMode, 0, 2), symbol(api.SymFilter, 0, 1), symbol(api.SymObmc, 0, 0))
	byHand(t, g, in(frame{false, true}, skipped(inter(0, 0, 64, 64, 1, vec(0, 0)))), frame{false, true},
		symbol(api.SymSkip, 0, 1), symbol(api.SymInter, 0, 1),
		symbol(api.SymComp, 0, 0), symbol(api.SymRef, 0, 1), symbol(api.SymMvMode, 0, 3), symbol(api.SymMvJoint, 0, 0), symbol(api.SymFilter, 0, 0), symbol(api.SymObmc, 0, 0))
}

// Inter blocks among others, whose symbols are worked out by hand: into frame 1 they have the candidates 3 -4, then -4095 4095 of a block of 8, -11 3 of one of 16; into frame 2 100 -100 of one of 8 and -1 7, into frame 0 9 9 of one of 16 (P18.2).
func TestNeighboursByHand(t *testing.T) {
	g := neighbours(t)
	with := func(b api.Block, mode int) api.Block { b.MvMode = mode; return b }
	byHand(t, g, with(inter(16, 16, 8, 8, 1, vec(3, -4)), api.MvNearest), plain,
		symbol(api.SymSkip, 1, 0), symbol(api.SymInter, 1, 1), symbol(api.SymTx8, 0, 0),
		symbol(api.SymComp, 0, 0), symbol(api.SymRef, 0, 1), symbol(api.SymMvMode, 2, 0), symbol(api.SymFilter, 0, 0), symbol(api.SymObmc, 0, 0))
	byHand(t, g, with(inter(16, 16, 8, 8, 1, vec(-4095, 4095)), api.MvNear), plain,
		symbol(api.SymSkip, 1, 0), symbol(api.SymInter, 1, 1), symbol(api.SymTx8, 0, 0),
		symbol(api.SymComp, 0, 0), symbol(api.SymRef, 0, 1), symbol(api.SymMvMode, 2, 1), symbol(api.SymFilter, 0, 0), symbol(api.SymObmc, 0, 0))
	byHand(t, g, with(inter(16, 16, 16, 8, 1, vec(-11, 3)), api.MvNear), plain,
		symbol(api.SymSkip, 1, 0), symbol(api.SymInter, 1, 1), symbol(api.SymTx8, 0, 0),
		symbol(api.SymComp, 0, 0), symbol(api.SymRef, 0, 1), symbol(api.SymMvMode, 2, 1), symbol(api.SymFilter, 0, 0), symbol(api.SymObmc, 0, 0))
	byHand(t, g, skipped(with(comp(16, 16, 16, 16, 0, vec(9, 9), 2, vec(-1, 7)), api.MvNearest)), plain,
		symbol(api.SymSkip, 1, 1), symbol(api.SymInter, 1, 1),
		symbol(api.SymComp, 0, 1), symbol(api.SymRef, 0, 0), symbol(api.SymRef, 1, 2), symbol(api.SymMvMode, 1, 0), symbol(api.SymFilter, 0, 0))
	byHand(t, g, skipped(with(comp(16, 16, 8, 16, 2, vec(-1, 7), 1, vec(-4095, 4095)), api.MvNear)), plain,
		symbol(api.SymSkip, 1, 1), symbol(api.SymInter, 1, 1),
		symbol(api.SymComp, 0, 1), symbol(api.SymRef, 0, 2), symbol(api.SymRef, 1, 1), symbol(api.SymMvMode, 2, 1), symbol(api.SymFilter, 0, 0))
	byHand(t, g, skipped(comp(16, 16, 8, 8, 0, vec(0, -9), 1, vec(3, -4095))), plain,
		symbol(api.SymSkip, 1, 1), symbol(api.SymInter, 1, 1),
		symbol(api.SymComp, 0, 1), symbol(api.SymRef, 0, 0), symbol(api.SymRef, 1, 1), symbol(api.SymMvMode, 0, 3),
		symbol(api.SymMvJoint, 0, 2), raw(1, 1), symbol(api.SymMvClass, 1, 1), raw(1, 0), symbol(api.SymMvFrac, 1, 0),
		symbol(api.SymMvJoint, 0, 2), raw(1, 1), symbol(api.SymMvClass, 1, 9), raw(9, 0), symbol(api.SymMvFrac, 1, 2), // 4091 below -4
		symbol(api.SymFilter, 0, 0))
	byHand(t, g, skipped(comp(16, 16, 8, 8, 2, vec(100, -99), 2, vec(108, -110))), plain,
		symbol(api.SymSkip, 1, 1), symbol(api.SymInter, 1, 1),
		symbol(api.SymComp, 0, 1), symbol(api.SymRef, 0, 2), symbol(api.SymRef, 1, 2), symbol(api.SymMvMode, 2, 3),
		symbol(api.SymMvJoint, 0, 2), raw(1, 0), symbol(api.SymMvClass, 1, 0), symbol(api.SymMvFrac, 1, 0),
		symbol(api.SymMvJoint, 0, 3),
		raw(1, 0), symbol(api.SymMvClass, 0, 0), symbol(api.SymMvFrac, 0, 7),
		raw(1, 1), symbol(api.SymMvClass, 1, 1), raw(1, 0), symbol(api.SymMvFrac, 1, 1),
		symbol(api.SymFilter, 0, 0))
	byHand(t, g, with(comp(16, 16, 8, 8, 2, vec(0, 0), 1, vec(0, 0)), api.MvZero), plain,
		symbol(api.SymSkip, 1, 0), symbol(api.SymInter, 1, 1), symbol(api.SymTx8, 0, 0),
		symbol(api.SymComp, 0, 1), symbol(api.SymRef, 0, 2), symbol(api.SymRef, 1, 1), symbol(api.SymMvMode, 2, 2), symbol(api.SymFilter, 0, 0))
	// an intra block among them
	byHand(t, g, intra(16, 16, 8, 8), plain,
		symbol(api.SymSkip, 1, 0), symbol(api.SymInter, 1, 0), symbol(api.SymYMode, 0, 0), symbol(api.SymUVCfl, 0, 0), symbol(api.SymTx8, 0, 0))
	byHand(t, g, intra(16, 16, 8, 8), frame{true, false},
		symbol(api.SymSkip, 1, 0), symbol(api.SymYMode, 0, 0), symbol(api.SymUVCfl, 0, 0), symbol(api.SymTx8, 0, 0))
}

// The contexts of Skip and Inter: how many of the two neighbours are (P18.2).
func TestContextsOfNeighbours(t *testing.T) {
	kinds := []func(x, y int) api.Block{
		func(x, y int) api.Block { return intra(x, y, 8, 8) },
		func(x, y int) api.Block { return skipped(intra(x, y, 8, 8)) },
		func(x, y int) api.Block { return inter(x, y, 8, 8, 0, vec(0, 0)) },
		func(x, y int) api.Block { return skipped(inter(x, y, 8, 8, 0, vec(0, 0))) },
	}
	for i := range 5 {
		for j := range 5 {
			g, skip, other := gridOf(t, square(), skipped(inter(32, 32, 8, 8, 0, vec(9, 9))), skipped(inter(8, 8, 8, 8, 2, vec(9, 9)))), 0, 0
			for at, kind := range []int{i, j} {
				if kind == 4 {
					continue // nothing is known there
				}
				known(t, g, kinds[kind](16-8*at, 8+8*at))
				skip += kind % 2
				other += kind / 2
			}
			for _, isSkip := range []bool{true, false} {
				b := intra(16, 16, 8, 8)
				b.Skip = isSkip
				byHand(t, g, b, plain, symbol(api.SymSkip, skip, one(isSkip)), symbol(api.SymInter, other, 0), symbol(api.SymYMode, 0, 0), symbol(api.SymUVCfl, 0, 0), symbol(api.SymTx8, 0, 0))
				byHand(t, g, b, frame{true, false}, symbol(api.SymSkip, skip, one(isSkip)), symbol(api.SymYMode, 0, 0), symbol(api.SymUVCfl, 0, 0), symbol(api.SymTx8, 0, 0))
			}
		}
	}
}

// Every mode with every delta it may have, of every shape, in every frame (P18.2).
func TestEveryMode(t *testing.T) {
	for _, f := range frames() {
		for _, s := range shapes() {
			var l []api.Block
			for mode := range 13 {
				for delta := -3; delta <= 3; delta++ {
					if delta != 0 && (mode < 1 || mode > 8) {
						continue
					}
					b := in(f, intra(8, 24, s[0], s[1]))
					b.Skip = mode%2 == 0
					b.YMode, b.YDelta = mode, delta
					l = append(l, b)
					b.YMode, b.YDelta, b.UVMode, b.UVDelta = 12-mode, 0, mode, delta
					l = append(l, b)
				}
			}
			row(t, syms.Default(), true, gridOf(t, square()), f, l...)
		}
	}
}

// Every pair of what colour is moved by, and which sign each pair has, by hand (P18.2).
func TestEveryCfl(t *testing.T) {
	signs := map[[2]int]int{{0, -1}: 0, {0, 1}: 1, {-1, 0}: 2, {-1, -1}: 3, {-1, 1}: 4, {1, 0}: 5, {1, -1}: 6, {1, 1}: 7}
	g := gridOf(t, square())
	for pair, both := range signs {
		for _, by := range []int{1, 2, 16} {
			b := intra(0, 0, 32, 16)
			b.UVMode, b.CflU, b.CflV = api.ModeCfl, pair[0]*by, pair[1]*by
			l := []act{symbol(api.SymSkip, 0, 0), symbol(api.SymYMode, 1, 0), symbol(api.SymUVCfl, 0, 13), symbol(api.SymCflSign, 0, both)}
			for i, n := range pair {
				if n != 0 {
					l = append(l, symbol(api.SymCflMag, i, by-1))
				}
			}
			byHand(t, g, b, frame{true, false}, append(l, symbol(api.SymTx, 0, 0))...)
		}
	}
	var l []api.Block
	for u := -16; u <= 16; u++ {
		for v := -16; v <= 16; v++ {
			if u != 0 || v != 0 {
				b := intra(0, 0, 8+8*(u&1), 8)
				b.UVMode, b.CflU, b.CflV = api.ModeCfl, u, v
				l = append(l, b)
			}
		}
	}
	for _, f := range []frame{{false, false}, {true, false}} {
		row(t, syms.Default(), true, g, f, l...)
	}
}

// Every size of transforms of every shape, by hand: a kind, its context and its value; none where there is nothing to choose (P18.2).
func TestEverySize(t *testing.T) {
	g := gridOf(t, square())
	for _, s := range shapes() {
		for least, x := range map[int]struct {
			kind, context int
			sizes         []int
		}{8: {api.SymTx8, 0, []int{8, 4}}, 16: {api.SymTx, 0, []int{16, 8, 4}}, 32: {api.SymTx, 1, []int{32, 16, 8}}, 64: {api.SymTx, 2, []int{64, 32, 16}}} {
			if min(s[0], s[1]) != least {
				continue
			}
			yMode := map[int]int{8: 0, 16: 1, 32: 2, 64: 3}[least]
			uv := api.SymUVCfl
			if max(s[0], s[1]) == 64 {
				uv = api.SymUVMode
			}
			for v, size := range x.sizes {
				b, m := intra(0, 0, s[0], s[1]), inter(0, 0, s[0], s[1], 1, vec(0, 0))
				b.TxSize, m.TxSize = size, size
				for _, isSkip := range []bool{true, false} {
					b.Skip = isSkip
					byHand(t, g, b, plain, symbol(api.SymSkip, 0, one(isSkip)), symbol(api.SymInter, 0, 0), symbol(api.SymYMode, yMode, 0), symbol(uv, 0, 0), symbol(x.kind, x.context, v))
				}
				byHand(t, g, m, plain, symbol(api.SymSkip, 0, 0), symbol(api.SymInter, 0, 1), symbol(x.kind, x.context, v),
					symbol(api.SymComp, 0, 0), symbol(api.SymRef, 0, 1), symbol(api.SymMvMode, 0, 3), symbol(api.SymMvJoint, 0, 0), symbol(api.SymFilter, 0, 0), symbol(api.SymObmc, 0, 0))
			}
			m := skipped(inter(0, 0, s[0], s[1], 1, vec(0, 0)))
			for _, f := range []frame{{false, false}, {false, true}} {
				byHand(t, g, in(f, m), f, symbol(api.SymSkip, 0, 1), symbol(api.SymInter, 0, 1),
					symbol(api.SymComp, 0, 0), symbol(api.SymRef, 0, 1), symbol(api.SymMvMode, 0, 3), symbol(api.SymMvJoint, 0, 0), symbol(api.SymFilter, 0, 0), symbol(api.SymObmc, 0, 0))
			}
			f := frame{false, true}
			byHand(t, g, in(f, inter(0, 0, s[0], s[1], 1, vec(0, 0))), f, symbol(api.SymSkip, 0, 0), symbol(api.SymInter, 0, 1),
				symbol(api.SymComp, 0, 0), symbol(api.SymRef, 0, 1), symbol(api.SymMvMode, 0, 3), symbol(api.SymMvJoint, 0, 0), symbol(api.SymFilter, 0, 0), symbol(api.SymObmc, 0, 0))
			for _, key := range []bool{true, false} {
				f := frame{key, true}
				l := []act{symbol(api.SymSkip, 0, 0), symbol(api.SymInter, 0, 0), symbol(api.SymYMode, yMode, 0), symbol(uv, 0, 0)}
				if key {
					l = slices.Delete(l, 1, 2)
				}
				byHand(t, g, in(f, intra(0, 0, s[0], s[1])), f, l...)
			}
		}
	}
}

// Mixed blocks of every kind, in grids of all sorts, with every set (P18.2).
func TestMixedBlocks(t *testing.T) {
	d := draws(5)
	for _, s := range sets(t) {
		for n := range 40 {
			tile, f := d.tile(), frames()[d.below(4)]
			g := d.filled(t, tile, d.one(0, 3, 20, 80))
			var l []api.Block
			for range 25 {
				l = append(l, d.block(t, g, d.shape(tile), f))
			}
			row(t, s, n%2 == 0, g, f, l...)
		}
	}
}
