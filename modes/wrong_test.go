package modes_test

import (
	"fmt"
	"math"
	"slices"
	"testing"

	"zoetrope/api"
	"zoetrope/grid"
	"zoetrope/modes"
	"zoetrope/syms"
)

// wrongShapes are blocks whose shape may not be, or whose place is not in the square tile.
func wrongShapes() []api.Block {
	var l []api.Block
	for _, n := range []int{-8, 1, 4, 7, 9, 64, 72, 248, 256, 260, math.MaxInt, math.MinInt} {
		l = append(l, shaped(n, 0, 8, 8), shaped(0, n, 8, 8), shaped(n, n, 64, 64))
	}
	for _, n := range []int{-8, 0, 1, 4, 7, 9, 12, 24, 48, 63, 72, 128, 256, math.MaxInt, math.MinInt} {
		l = append(l, shaped(0, 0, n, 8), shaped(0, 0, 8, n), shaped(8, 16, n, n), shaped(0, 0, 64, n))
	}
	return append(l, shaped(0, 0, 8, 64), shaped(0, 0, 64, 8))
}

// A coder or a grid that is none, whatever else is wrong (P18.2).
func TestNone(t *testing.T) {
	m := inter(0, 0, 8, 8, 0, vec(5, 5))
	blocks := append(wrongShapes(), api.Block{}, intra(0, 0, 8, 8), intra(8, 8, 64, 64), m, but(m, func(b *api.Block) { b.MvMode = 0 }), but(m, func(b *api.Block) { b.YMode = 13 }))
	ofNone(t, func(c *syms.Coder, g *grid.Grid) {
		for _, b := range blocks {
			for _, f := range frames() {
				refused(t, c, g, b, f, api.ErrNil)
			}
		}
	})
}

// Shapes that may not be, of both sides: nothing is written, and nothing is read (P18.2).
func TestWrongShapes(t *testing.T) {
	for _, l := range pair(t) {
		g := gridOf(t, square())
		for _, b := range wrongShapes() {
			for _, f := range frames() {
				refused(t, l[0], g, b, f, api.ErrArg)
				for _, size := range []int{4, 8, 16, 64} {
					b.TxSize = size
					refused(t, l[0], g, b, f, api.ErrArg)
				}
			}
		}
		goesOn(t, "shapes that may not be", l[0], l[1])
		g = gridOf(t, whole())
		for _, x := range shapeOnly {
			for _, n := range all() {
				b := intra(0, 0, 16, 16)
				*x.of(&b) = n
				if x.name == "W" || x.name == "H" {
					if slices.Contains(sides(), n) {
						continue
					}
				} else if n >= 0 && n <= 248 && n%8 == 0 {
					continue
				}
				refused(t, l[0], g, b, plain, api.ErrArg)
				refused(t, l[0], g, b, frame{true, true}, api.ErrArg)
			}
		}
		goesOn(t, "shapes that may not be", l[0], l[1])
	}
}

// Places of tiles of all sorts: a block's must be in the tile, of both sides; the block may reach beyond it (P18.2).
func TestPlacesOfBlocks(t *testing.T) {
	for _, tile := range []api.Rect{square(), whole(), rect(64, 0, 72, 8), rect(128, 192, 128, 64), rect(192, 64, 8, 192), rect(0, 128, 24, 40)} {
		for _, l := range pair(t) {
			g := gridOf(t, tile)
			for x := -16; x <= 272; x += 8 {
				for y := -16; y <= 272; y += 8 {
					s := shapes()[(x+7*y+1024)%len(shapes())]
					b := intra(x, y, s[0], s[1])
					if x < tile.X || x >= tile.X+tile.W || y < tile.Y || y >= tile.Y+tile.H {
						refused(t, l[0], g, b, frame{true, false}, api.ErrArg)
						continue
					}
					if l[0].Writes() {
						codes(t, l[0], g, b, frame{true, false})
						does(t, l[1], plan(t, g, b, frame{true, false})...)
						continue
					}
					want, _ := source{t, l[1]}.block(g, b, frame{true, false})
					codes(t, l[0], g, want, frame{true, false})
				}
			}
			goesOn(t, fmt.Sprintf("places of %v", tile), l[0], l[1])
		}
	}
}

// changes are what makes a block one that may not be, in a frame that loses something.
func changes() map[string][]func(*api.Block) {
	set := func(name string, l ...int) []func(*api.Block) {
		at := slices.IndexFunc(fields(), func(x field) bool { return x.name == name })
		var all []func(*api.Block)
		for _, n := range append(l, far()...) {
			all = append(all, func(b *api.Block) { *fields()[at].of(b) = n })
		}
		return all
	}
	intra := slices.Concat(set("YMode", -1, 13, 14), set("UVMode", -1, 13, 14), set("YDelta", -1, 1), set("UVDelta", -1, 1), set("CflU", -1, 1), set("CflV", -1, 1), set("TxSize", 0, 1, 2, 3, 5, 32, -8), set("Ref 1", 1), set("Mv 1 X", 1, -1), set("Mv 1 Y", 1, -1))
	m := map[string][]func(*api.Block){"intra": intra, "inter": intra}
	for _, name := range []string{"Ref 0", "MvMode", "Mv 0 X", "Mv 0 Y", "Filter"} {
		m["intra"] = append(m["intra"], set(name, 1, -1)...)
	}
	m["inter"] = slices.Concat(intra, set("Ref 0", 3, -1), set("MvMode", 4, -1), set("Mv 0 X", 4096, -4096), set("Mv 0 Y", 4096, -4096), set("Filter", 3, -1))
	m["comp"] = slices.Concat(set("Ref 0", 3, -1), set("Ref 1", 3, -1), set("Mv 0 X", 4096), set("Mv 0 Y", -4096), set("Mv 1 X", 4096, -4096), set("Mv 1 Y", 4096, -4096), set("Filter", 3, -1))
	m["intra"] = append(m["intra"], func(b *api.Block) { b.Comp = true }, func(b *api.Block) { b.Obmc = true })
	m["comp"] = append(m["comp"], func(b *api.Block) { b.Obmc = true }, func(b *api.Block) { b.Comp = false })
	return m
}

// Of a writer blocks that may not be are refused ahead of anything being written (P18.2).
func TestBlocksThatMayNotBe(t *testing.T) {
	w, was := pair(t)[0][0], pair(t)[0][1]
	g := gridOf(t, square(), inter(0, 8, 8, 8, 0, vec(9, 9)))
	start := map[string]api.Block{"intra": intra(8, 8, 8, 8), "inter": inter(8, 8, 8, 8, 0, vec(3, 4)), "comp": comp(8, 8, 8, 8, 0, vec(3, 4), 2, vec(5, 6))}
	for kind, l := range changes() {
		for _, change := range l {
			b := but(start[kind], change)
			if mayBe(b, plain) {
				t.Fatalf("%+v may be", b)
			}
			refused(t, w, g, b, plain, api.ErrArg)
			refused(t, w, g, skipped(b), plain, api.ErrArg)
		}
		codes(t, w, g, start[kind], plain)
		does(t, was, plan(t, g, start[kind], plain)...)
	}
	for _, b := range start {
		refused(t, w, g, b, frame{false, true}, api.ErrArg)
		refused(t, w, g, b, frame{true, true}, api.ErrArg)
		b.TxSize = 4
		refused(t, w, g, but(b, func(b *api.Block) { b.Skip, b.Inter = true, true }), plain, api.ErrArg)
		b.Inter = true
		refused(t, w, g, b, frame{true, false}, api.ErrArg)
		refused(t, w, g, b, frame{true, true}, api.ErrArg)
	}
	goesOn(t, "blocks that may not be", w, was)
}

// Mixed blocks with some field changed are refused by a writer just where they may not be or don't agree, and nothing is written then (P18.2).
func TestChangedBlocks(t *testing.T) {
	d, many := draws(61), 0
	for range 40 {
		tile, f := d.tile(), frames()[d.below(4)]
		g := d.filled(t, tile, 20)
		w, was := pair(t)[0][0], pair(t)[0][1]
		for range 40 {
			b := d.block(t, g, d.shape(tile), f)
			for range 1 + d.below(2) {
				x := fields()[4+d.below(len(fields())-4)]
				*x.of(&b) = d.one(-1, 0, 1, 2, 3, 4, 8, 13, 16, 4095, 4096)
			}
			if d.is(4) {
				flag := flags()[d.below(4)](&b)
				*flag = !*flag
			}
			if mayBe(b, f) && agreed(t, g, b) {
				codes(t, w, g, b, f)
				does(t, was, plan(t, g, b, f)...)
				many++
			} else {
				refused(t, w, g, b, f, api.ErrArg)
			}
		}
		goesOn(t, "changed blocks", w, was)
	}
	if many < 50 || many > 1500 {
		t.Errorf("%d of 1600 were coded", many)
	}
}

// agreed is what the chapter says of blocks that may be.
func agreed(t *testing.T, g *grid.Grid, b api.Block) bool {
	t.Helper()
	if !b.Inter || b.MvMode == api.MvNew {
		return true
	}
	for i := range 1 + one(b.Comp) {
		near, _ := candidates(t, g, b, b.Ref[i])
		if b.Mv[i] != [3]api.Vec{near[0], near[1], {}}[b.MvMode] {
			return false
		}
	}
	return true
}

// Several things that are wrong: a coder or a grid that is none goes ahead of all else, and what may not be ahead of what was read (P18.2).
func TestSeveralWrong(t *testing.T) {
	long := slices.Repeat([]byte{255}, 100) // the first vector has parts that are too great
	r := reader(t, long, syms.Default(), false)
	g := gridOf(t, square())
	refused(t, nil, nil, shaped(8, 0, 8, 8), plain, api.ErrNil)
	refused(t, r, nil, shaped(8, 0, 8, 8), plain, api.ErrNil)
	refused(t, r, &grid.Grid{}, shaped(-8, 0, 9, 8), plain, api.ErrNil)
	refused(t, r, g, shaped(64, 0, 8, 8), plain, api.ErrArg)
	refused(t, r, g, shaped(8, 0, 8, 64), plain, api.ErrArg)
	if r.Count() != 0 {
		t.Errorf("%d symbols and bits were read", r.Count())
	}
	refused(t, r, g, shaped(8, 0, 8, 8), plain, api.ErrSyntax)
	refused(t, r, g, shaped(8, 0, 8, 9), plain, api.ErrArg)
	w := writer(t, syms.Default(), true)
	b := but(inter(0, 0, 8, 8, 0, vec(4096, 0)), func(b *api.Block) { b.MvMode = api.MvNearest })
	refused(t, w, g, b, plain, api.ErrArg)
	refused(t, w, g, b, frame{true, true}, api.ErrArg)
	refused(t, w, nil, b, plain, api.ErrNil)
	if w.Count() != 0 {
		t.Errorf("%d symbols and bits were written", w.Count())
	}
}

// A vector that is too long is no error of a writer's grid: what is handed in is looked at, not what the neighbours have (P18.2).
func TestWriterBesideLongVectors(t *testing.T) {
	g := gridOf(t, square(), inter(0, 8, 8, 8, 0, vec(4096, 0)))
	w := writer(t, syms.Default(), true)
	for mode, v := range []api.Vec{vec(4096, 0), vec(0, 0), vec(0, 0), vec(4095, 0)} {
		b := inter(8, 8, 8, 8, 0, v)
		b.MvMode = mode
		if mode == api.MvNearest {
			refused(t, w, g, b, plain, api.ErrArg) // as it may not be
		} else {
			codes(t, w, g, b, plain)
		}
		b.Mv[0] = vec(4095, 0)
		if mode != api.MvNew {
			refused(t, w, g, b, plain, api.ErrArg) // as it does not agree
		}
	}
}

// A block that is refused leaves nothing behind: the next one is coded as if it hadn't been (P18.2).
func TestRefusedAndGoOn(t *testing.T) {
	d := draws(62)
	g := d.filled(t, square(), 12)
	w, quiet := writer(t, syms.Default(), true), writer(t, syms.Default(), true)
	var l []api.Block
	for range 60 {
		b := d.block(t, g, d.shape(square()), plain)
		l = append(l, b)
		codes(t, quiet, g, b, plain)
		for _, change := range []func(*api.Block){func(b *api.Block) { b.TxSize++ }, func(b *api.Block) { b.X = 64 }, func(b *api.Block) { b.YMode = 13 }, func(b *api.Block) { b.Filter = -1 }} {
			refused(t, w, g, but(b, change), plain, api.ErrArg)
		}
		codes(t, w, g, b, plain)
	}
	alike(t, "blocks with refused ones between", w, quiet)
	r := reader(t, written(t, w), syms.Default(), true)
	for _, b := range l {
		refused(t, r, g, but(b, func(b *api.Block) { b.W = 24 }), plain, api.ErrArg)
		got, e := modes.Code(r, g, b, false, false)
		if got != b || e != api.OK {
			t.Fatalf("%+v: %+v, %d", b, got, e)
		}
	}
	alike(t, "read with refused ones between", r, w)
}
