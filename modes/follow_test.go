package modes_test

import (
	"fmt"
	"slices"
	"testing"

	"zoetrope/api"
	"zoetrope/grid"
	"zoetrope/modes"
	"zoetrope/syms"
)

// walk has a tile written or read: its regions are cut, and its blocks coded, each of which is then known.
type walk struct {
	t     *testing.T
	c     *syms.Coder
	g     *grid.Grid
	d     *draws // whoever writes draws blocks
	f     frame
	tile  api.Rect
	kinds []int
	l     []api.Block
}

func (w *walk) tiles() {
	w.t.Helper()
	for y := w.tile.Y; y < w.tile.Y+w.tile.H; y += 64 {
		for x := w.tile.X; x < w.tile.X+w.tile.W; x += 64 {
			w.region(rect(x, y, 64, 64))
		}
	}
}

// region cuts one: not, into two, or into four. What does not lie within the tile is cut into four, down to a cell.
func (w *walk) region(r api.Rect) {
	w.t.Helper()
	if r.X >= w.tile.X+w.tile.W || r.Y >= w.tile.Y+w.tile.H {
		return
	}
	if r.W == 8 {
		w.block(shaped(r.X, r.Y, 8, 8))
		return
	}
	kind := api.PartSplit
	if w.c.Writes() && r.X+r.W <= w.tile.X+w.tile.W && r.Y+r.H <= w.tile.Y+w.tile.H {
		kind = w.d.one(api.PartNone, api.PartHorz, api.PartVert, api.PartSplit, api.PartSplit)
	}
	kind, e := modes.Part(w.c, w.g, r, kind)
	if e != api.OK {
		w.t.Fatalf("Part(%v): %d", r, e)
	}
	w.kinds = append(w.kinds, kind)
	half := r.W / 2
	switch kind {
	case api.PartNone:
		w.block(shaped(r.X, r.Y, r.W, r.H))
	case api.PartHorz:
		w.block(shaped(r.X, r.Y, r.W, half))
		w.block(shaped(r.X, r.Y+half, r.W, half))
	case api.PartVert:
		w.block(shaped(r.X, r.Y, half, r.H))
		w.block(shaped(r.X+half, r.Y, half, r.H))
	case api.PartSplit:
		for i := range 4 {
			w.region(rect(r.X+i%2*half, r.Y+i/2*half, half, half))
		}
	default:
		w.t.Fatalf("%v is cut as nobody has written: %d", r, kind)
	}
}

func (w *walk) block(b api.Block) {
	w.t.Helper()
	if w.c.Writes() {
		b = w.d.block(w.t, w.g, b, w.f)
	}
	was := w.c.Count()
	got, e := modes.Code(w.c, w.g, b, w.f.key, w.f.lossless)
	if e != api.OK || w.c.Writes() && got != b {
		w.t.Fatalf("%+v: %+v, %d", b, got, e)
	}
	if n := w.c.Count() - was; n > 64 {
		w.t.Fatalf("%d symbols and bits of %+v", n, got)
	}
	known(w.t, w.g, got)
	w.l = append(w.l, got)
}

// Whole tiles are read as they were written, block by block, with a grid that comes to know the same (P18.5).
func TestTiles(t *testing.T) {
	d := draws(81)
	for i, s := range slices.Concat(sets(t), sets(t)) {
		for _, f := range frames() {
			for _, tile := range []api.Rect{d.tile(), rect(64, 64, 128, 64), rect(128, 192, 72, 40)} {
				w := walk{t: t, c: writer(t, s, i < 4), g: gridOf(t, tile), d: &d, f: f, tile: tile}
				w.tiles()
				r := walk{t: t, c: reader(t, written(t, w.c), s, i < 4), g: gridOf(t, tile), f: f, tile: tile}
				r.tiles()
				if !slices.Equal(r.l, w.l) || !slices.Equal(r.kinds, w.kinds) {
					t.Fatalf("%v of %+v is read otherwise than it was written", tile, f)
				}
				alike(t, fmt.Sprintf("%v of %+v", tile, f), r.c, w.c)
			}
		}
	}
}

// The longest block that there is: two vectors whose parts differ by the most that they may (P18.5).
func TestLongestBlock(t *testing.T) {
	for _, sign := range []int{1, -1} {
		far := sign * most
		g := gridOf(t, square(), comp(8, 16, 8, 8, 1, vec(far, -far), 2, vec(-far, -far)))
		b := comp(16, 16, 16, 16, 1, vec(-far, far), 1, vec(-far, far))
		row(t, syms.Default(), true, g, plain, b)
		w := writer(t, syms.Default(), true)
		codes(t, w, g, b, plain)
		if w.Count() != 62 {
			t.Errorf("%d symbols and bits, want 62", w.Count())
		}
		codes(t, w, g, in(frame{false, true}, b), frame{false, true})
		if w.Count() != 62+61 {
			t.Errorf("%d symbols and bits more, want 61", w.Count()-62)
		}
		b.Comp, b.Ref[1], b.Mv[1], b.Obmc = false, 0, vec(0, 0), true
		codes(t, w, g, b, plain)
		if w.Count() != 62+61+35 {
			t.Errorf("%d symbols and bits more, want 35", w.Count()-62-61)
		}
		long := but(intra(0, 0, 8, 8), func(b *api.Block) { b.YMode, b.YDelta, b.UVMode, b.CflU, b.CflV = 1, 3, 13, 16, -16 })
		codes(t, w, g, long, plain)
		if w.Count() != 62+61+35+9 {
			t.Errorf("%d symbols and bits more, want 9", w.Count()-62-61-35)
		}
	}
}

// Every kind of block that there is, one behind the other, is read as it was written (P18.5).
func TestEveryKindOfBlock(t *testing.T) {
	g := neighbours(t)
	for _, f := range frames() {
		var l []api.Block
		for _, s := range shapes() {
			for _, size := range sizesOf(shaped(0, 0, s[0], s[1]), f) {
				for mode := range 13 {
					b := intra(16, 16, s[0], s[1])
					b.TxSize, b.YMode, b.UVMode = size, mode, (mode+5)%13
					l = append(l, b, skipped(b))
				}
				if f.key {
					continue
				}
				for n := range 3 * 3 * 4 * 3 * 2 {
					b := inter(16, 16, s[0], s[1], n%3, vec(n, -n))
					b.TxSize, b.MvMode, b.Filter, b.Comp = size, n/9%4, n/36%3, n/108 == 1
					b.Ref[1] = n / 3 % 3 * one(b.Comp)
					for i := range 1 + one(b.Comp) {
						near, _ := candidates(t, g, b, b.Ref[i])
						b.Mv[i] = [4]api.Vec{near[0], near[1], {}, vec(n*19-2000, 3*i)}[b.MvMode]
					}
					l = append(l, b)
					if f.lossless || size == min(s[0], s[1]) {
						l = append(l, skipped(b))
					}
					if !b.Comp {
						b.Obmc = true
						l = append(l, b)
					}
				}
			}
		}
		row(t, syms.Default(), true, g, f, l...)
	}
}

// What is known counts, and nothing else: with grids of other tiles and of other ways to the same neighbours a block is coded the same (P18.5).
func TestGridsThatKnowTheSame(t *testing.T) {
	l := []api.Block{
		skipped(inter(72, 80, 8, 8, 1, vec(3, -4))), intra(80, 72, 8, 8), comp(88, 72, 8, 8, 2, vec(100, -100), 1, vec(-4095, 4095)), skipped(inter(64, 64, 16, 16, 2, vec(-1, 7))),
	}
	a, b, c := gridOf(t, rect(64, 64, 64, 64), l...), gridOf(t, whole(), l...), gridOf(t, rect(64, 64, 192, 128))
	slices.Reverse(l)
	known(t, c, l...)
	known(t, c, inter(128, 80, 8, 8, 1, vec(55, 55)), inter(104, 80, 8, 8, 1, vec(55, 55)))
	d := draws(83)
	for range 60 {
		x := d.block(t, a, shaped(80, 80, d.one(8, 16), d.one(8, 16, 32)), plain)
		w := writer(t, syms.Default(), true)
		codes(t, w, a, x, plain)
		for _, g := range []*grid.Grid{b, c} {
			u := writer(t, syms.Default(), true)
			codes(t, u, g, x, plain)
			alike(t, "grids that know the same", u, w)
			codes(t, reader(t, written(t, w), syms.Default(), true), g, x, plain)
		}
	}
}
