package grid_test

import (
	"testing"

	"zoetrope/api"
)

// examples is the chapter's grid, with its two blocks.
func examples(t *testing.T) *pair {
	t.Helper()
	a := block(0, 0, 16, 16)
	a.Skip = true
	return pairOf(t, rect(0, 0, 64, 64), a, moved(16, 0, 8, 8, 1, vec(3, -4)))
}

// atIs asks for a block at a place, by hand.
func atIs(t *testing.T, p *pair, x, y int, want api.Block) {
	t.Helper()
	if b, ok := p.g.At(x, y); b != want || !ok {
		t.Fatalf("At(%d, %d): %v, %v, want %v", x, y, b, ok, want)
	}
}

// nothing asks for none at a place, by hand.
func nothing(t *testing.T, p *pair, x, y int) {
	t.Helper()
	if b, ok := p.g.At(x, y); b != (api.Block{}) || ok {
		t.Fatalf("At(%d, %d): %v, %v", x, y, b, ok)
	}
}

// The chapter's row (P17.2).
func TestPutOfExamples(t *testing.T) {
	p := examples(t)
	a := block(0, 0, 16, 16)
	a.Skip = true
	p.refused(a)
	p.refused(block(60, 0, 8, 8))
	atIs(t, p, 15, 15, a)
	nothing(t, p, 16, 8)
	nothing(t, p, -1, 0)
	atIs(t, p, 16, 0, moved(16, 0, 8, 8, 1, vec(3, -4)))
	p.all()
}

// tiles are some at each end of where they may be, narrow and wide.
func tiles() []api.Rect {
	return []api.Rect{rect(0, 0, 64, 64), rect(64, 128, 72, 40), rect(192, 192, 64, 64), rect(128, 0, 8, 128), rect(0, 192, 80, 8), rect(64, 64, 8, 8), rect(192, 64, 16, 64)}
}

// within tells whether one rectangle lies in another.
func within(b api.Block, r api.Rect) bool {
	return b.X >= r.X && b.Y >= r.Y && b.X+b.W <= r.X+r.W && b.Y+b.H <= r.Y+r.H
}

// Blocks of every width and height, at every place in a tile and about it, alone: what does not lie within it is refused (P17.2).
func TestPutEverywhere(t *testing.T) {
	for _, tile := range tiles() {
		for _, w := range sides() {
			for _, h := range sides() {
				for y := tile.Y - 72; y <= tile.Y+tile.H+8; y += 8 {
					for x := tile.X - 72; x <= tile.X+tile.W+8; x += 8 {
						b := block(x, y, w, h)
						g := made(t, tile)
						if !within(b, tile) {
							if e := g.Put(b); e != api.ErrArg || len(g.Blocks()) != 0 {
								t.Fatalf("tile %v: Put(%v): %d", tile, b, e)
							}
							continue
						}
						if e := g.Put(b); e != api.OK {
							t.Fatalf("tile %v: Put(%v): %d", tile, b, e)
						}
						for _, at := range [][2]int{{x, y}, {x + w - 1, y}, {x, y + h - 1}, {x + w - 1, y + h - 1}, {x + w/2, y + h/2}} {
							if c, ok := g.At(at[0], at[1]); c != b || !ok {
								t.Fatalf("tile %v: Put(%v), At(%v): %v, %v", tile, b, at, c, ok)
							}
						}
						for _, at := range [][2]int{{x - 1, y}, {x, y - 1}, {x + w, y}, {x, y + h}, {x + w, y + h - 1}, {x + w - 1, y + h}, {x - 1, y + h - 1}, {x + w - 1, y - 1}} {
							if c, ok := g.At(at[0], at[1]); c != (api.Block{}) || ok {
								t.Fatalf("tile %v: Put(%v), At(%v): %v, %v", tile, b, at, c, ok)
							}
						}
					}
				}
			}
		}
	}
}

// Blocks at each corner and at the edges of the greatest tile, and by as little as one cell beyond (P17.2).
func TestPutAtEdges(t *testing.T) {
	whole := rect(0, 0, 256, 256)
	for _, w := range sides() {
		for _, h := range sides() {
			for _, x := range []int{0, 120, 256 - w} {
				for _, y := range []int{0, 88, 256 - h} {
					pairOf(t, whole, block(x, y, w, h)).blocks()
				}
			}
			p := pairOf(t, whole)
			for _, y := range []int{0, 88, 256 - h} {
				p.refused(block(-8, y, w, h))
				p.refused(block(-w, y, w, h))
				p.refused(block(256-w+8, y, w, h))
				p.refused(block(256, y, w, h))
			}
			for _, x := range []int{0, 88, 256 - w} {
				p.refused(block(x, -8, w, h))
				p.refused(block(x, -h, w, h))
				p.refused(block(x, 256-h+8, w, h))
				p.refused(block(x, 256, w, h))
			}
			p.blocks()
		}
	}
}

// Places that are no multiples of 8, on either way and on both, and such that are far away (P17.2).
func TestPutAtWrongPlaces(t *testing.T) {
	for _, tile := range []api.Rect{rect(0, 0, 256, 256), rect(64, 128, 72, 64)} {
		p := pairOf(t, tile)
		var eights []int
		for n := 0; n < 256; n += 8 {
			eights = append(eights, n)
		}
		for _, x := range no(eights...) {
			for _, w := range sides() {
				p.refused(block(x, 128, w, 8))
				p.refused(block(64, x, 8, w))
				p.refused(block(x, x, w, w))
				p.refused(block(x, 0, w, 8))
				p.refused(block(0, x, 8, w))
			}
		}
		p.all()
	}
}

// Sides that no block has, on either way and on both, at places where any side would find room (P17.2).
func TestPutOfWrongSides(t *testing.T) {
	p := pairOf(t, rect(0, 0, 256, 256))
	for _, n := range no(sides()...) {
		for _, at := range []int{0, 8, 128, 192, 248} {
			for _, o := range sides() {
				p.refused(block(at, 0, n, o))
				p.refused(block(0, at, o, n))
			}
			p.refused(block(at, at, n, n))
		}
	}
	p.refused(api.Block{})
	p.all()
	for w := -10; w <= 140; w++ {
		for h := -10; h <= 140; h++ {
			p := pairOf(t, rect(64, 64, 192, 192))
			p.put(block(72, 80, w, h))
			p.at(72, 80)
			p.blocks()
		}
	}
}

// A second block, of every width and height, at every place about a first one, that lies over it wholly, partly, by one cell or not (P17.2).
func TestPutOverKnown(t *testing.T) {
	whole := rect(0, 0, 256, 256)
	for i := range 256 {
		a := block(96, 96, sides()[i%4], sides()[i/4%4])
		w, h := sides()[i/16%4], sides()[i/64]
		for y := 96 - 72; y <= 96+72; y += 8 {
			for x := 96 - 72; x <= 96+72; x += 8 {
				b := block(x, y, w, h)
				b.Skip = true
				apart := x+w <= a.X || a.X+a.W <= x || y+h <= a.Y || a.Y+a.H <= y
				g := made(t, whole)
				if e := g.Put(a); e != api.OK {
					t.Fatalf("Put(%v): %d", a, e)
				}
				if e := g.Put(b); e != errno(apart) {
					t.Fatalf("Put(%v), Put(%v): %d", a, b, e)
				}
				if c, ok := g.At(x, y); apart && (c != b || !ok) {
					t.Fatalf("Put(%v), Put(%v), At: %v, %v", a, b, c, ok)
				}
				if c, ok := g.At(96, 96); c != a || !ok {
					t.Fatalf("Put(%v), Put(%v), At: %v, %v", a, b, c, ok)
				}
			}
		}
	}
}

// A block over one that is known by a single cell, at each of the cells of both, and the same one twice (P17.2).
func TestPutOverOneCell(t *testing.T) {
	for _, w := range sides() {
		for _, h := range sides() {
			big := block(64, 128, w, h)
			for y := 128; y < 128+h; y += 8 {
				for x := 64; x < 64+w; x += 8 {
					small := block(x, y, 8, 8)
					p := pairOf(t, rect(64, 128, 64, 64), big)
					p.refused(small)
					p.refused(big)
					p.blocks()
					atIs(t, p, x, y, big)
					p = pairOf(t, rect(64, 128, 64, 64), small)
					p.refused(big)
					p.refused(small)
					p.blocks()
					// of what was refused no cell is known
					for v := 128; v < 128+h; v += 8 {
						for u := 64; u < 64+w; u += 8 {
							p.at(u, v)
						}
					}
				}
			}
		}
	}
}

// wrongs are blocks that a tile takes none of, for one reason or for several.
func wrongs(tile api.Rect) []api.Block {
	l := []api.Block{{}, block(tile.X-8, tile.Y, 8, 8), block(tile.X, tile.Y-8, 8, 8), block(tile.X+tile.W, tile.Y, 8, 8), block(tile.X, tile.Y+tile.H, 8, 8), block(tile.X, tile.Y, 24, 8), block(tile.X, tile.Y, 8, 48), block(tile.X+4, tile.Y, 8, 8), block(tile.X, tile.Y+1, 8, 8), block(tile.X+tile.W-8, tile.Y, 16, 8), block(tile.X, tile.Y+tile.H-8, 8, 16)}
	for _, n := range far() {
		l = append(l, block(n, tile.Y, 8, 8), block(tile.X, n, 8, 8), block(tile.X, tile.Y, n, 8), block(tile.X, tile.Y, 8, n), block(n, n, n, n), block(n, n, 64, 64))
	}
	return l
}

// Blocks that were refused change nothing, whatever they were refused for (P17.2).
func TestRefused(t *testing.T) {
	d := draws(171)
	for range 60 {
		p := pairOf(t, d.tile())
		p.fill(&d, d.one(0, 1, 5, 30))
		for _, b := range wrongs(p.m.tile) {
			p.refused(b)
		}
		for _, b := range p.m.blocks {
			p.refused(b)
			b.Skip, b.Inter = !b.Skip, !b.Inter
			p.refused(b)
			for _, w := range sides() {
				p.refused(block(b.X, b.Y, w, 8))
				p.refused(block(b.X+b.W-8, b.Y+b.H-8, 8, w))
			}
		}
		p.all()
		p.fill(&d, 10)
		p.all()
	}
}

// Blocks that are known are told with all that they were put with, at each of their samples (P17.2).
func TestAtOfAllFields(t *testing.T) {
	full := api.Block{X: 8, Y: 16, W: 32, H: 8, Skip: true, Inter: true, YMode: 1, YDelta: -2, UVMode: 3, UVDelta: 4, CflU: -5, CflV: 6, TxSize: 7, Comp: true, Ref: [2]int{8, 9}, MvMode: 10, Mv: [2]api.Vec{vec(11, -12), vec(-13, 14)}, Filter: 15, Obmc: true}
	p := pairOf(t, rect(0, 0, 64, 64), full)
	for y := 16; y < 24; y++ {
		for x := 8; x < 40; x++ {
			atIs(t, p, x, y, full)
		}
	}
	if l := p.g.Blocks(); len(l) != 1 || l[0] != full {
		t.Fatalf("Blocks: %v", l)
	}
	p.samples()
}

// Places outside of a tile, just beside it and far away, have none, though all of it is known; nor have those that look alike in their lower bits (P17.2).
func TestAtOutside(t *testing.T) {
	for _, tile := range append(tiles(), rect(0, 0, 256, 256), rect(64, 64, 192, 192)) {
		p := pairOf(t, tile)
		for y := tile.Y; y < tile.Y+tile.H; y += 8 {
			for x := tile.X; x < tile.X+tile.W; x += 8 {
				p.known(block(x, y, 8, 8))
			}
		}
		p.samples()
		for _, n := range append(far(), tile.X-1, tile.X-8, tile.X-64, -1, -8, -64, -256) {
			for _, o := range []int{tile.Y, tile.Y + tile.H - 1} {
				nothing(t, p, n, o)
			}
			nothing(t, p, n, n)
		}
		for _, n := range append(far(), tile.Y-1, tile.Y-8, tile.Y-64, -1, -8, -64, -256) {
			for _, o := range []int{tile.X, tile.X + tile.W - 1} {
				nothing(t, p, o, n)
			}
		}
	}
}

// Blocks are none at first, then one, then many, in the order in which they were put, which is not that of their places (P17.2).
func TestBlocks(t *testing.T) {
	p := pairOf(t, rect(64, 0, 64, 64))
	if l := p.g.Blocks(); len(l) != 0 {
		t.Fatalf("Blocks: %v", l)
	}
	want := []api.Block{block(120, 56, 8, 8), block(64, 0, 8, 8), block(96, 32, 16, 8), block(72, 0, 32, 16), block(64, 8, 8, 32), block(104, 8, 8, 8)}
	for i, b := range want {
		p.known(b)
		l := p.g.Blocks()
		if len(l) != i+1 {
			t.Fatalf("Blocks: %v", l)
		}
		for j := range l {
			if l[j] != want[j] {
				t.Fatalf("Blocks: %v", l)
			}
		}
		p.refused(b)
		p.blocks()
	}
	// as many as there are cells
	d := draws(172)
	p = pairOf(t, rect(0, 0, 256, 256))
	p.fill(&d, 20000)
	for at := range 32 * 32 {
		p.put(block(at%32*8, at/32*8, 8, 8))
	}
	p.blocks()
	p.refused(block(0, 0, 8, 8))
	p.all()
}
