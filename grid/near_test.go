package grid_test

import (
	"testing"

	"zoetrope/api"
)

// numberIs asks for a number, by hand.
func numberIs(t *testing.T, what string, n int, e api.Errno, want int) {
	t.Helper()
	if n != want || e != api.OK {
		t.Fatalf("%s: %d, %d, want %d", what, n, e, want)
	}
}

// noNumber asks for ErrArg, and for nothing beside it.
func noNumber(t *testing.T, what string, n int, e api.Errno) {
	t.Helper()
	if n != 0 || e != api.ErrArg {
		t.Fatalf("%s: %d, %d", what, n, e)
	}
}

func partIs(t *testing.T, p *pair, x, y, size, want int) {
	t.Helper()
	n, e := p.g.Part(x, y, size)
	numberIs(t, "Part", n, e, want)
}

func noPart(t *testing.T, p *pair, x, y, size int) {
	t.Helper()
	n, e := p.g.Part(x, y, size)
	noNumber(t, "Part", n, e)
}

func countsAre(t *testing.T, p *pair, x, y, skip, inter int) {
	t.Helper()
	n, e := p.g.Skip(x, y)
	numberIs(t, "Skip", n, e, skip)
	n, e = p.g.Inter(x, y)
	numberIs(t, "Inter", n, e, inter)
}

func noCounts(t *testing.T, p *pair, x, y int) {
	t.Helper()
	n, e := p.g.Skip(x, y)
	noNumber(t, "Skip", n, e)
	n, e = p.g.Inter(x, y)
	noNumber(t, "Inter", n, e)
}

// The chapter's rows (P17.3).
func TestNearOfExamples(t *testing.T) {
	p := examples(t)
	partIs(t, p, 0, 16, 16, 0)
	partIs(t, p, 16, 16, 16, 0)
	partIs(t, p, 0, 32, 32, 0)
	noPart(t, p, 0, 16, 32)
	countsAre(t, p, 24, 0, 0, 1)
	countsAre(t, p, 0, 16, 1, 0)
	countsAre(t, p, 16, 8, 1, 1)
	noCounts(t, p, 4, 0)
}

// Neighbours of every width and height, above, left, both and none: only the upper one's width counts, and the left one's height (P17.3).
func TestPart(t *testing.T) {
	tile := rect(64, 64, 192, 192)
	shapes := []api.Rect{{}}
	for _, w := range sides() {
		for _, h := range sides() {
			shapes = append(shapes, rect(0, 0, w, h))
		}
	}
	for _, size := range sizes() {
		for _, u := range shapes {
			for _, l := range shapes {
				p, want := pairOf(t, tile), 0
				if u.W > 0 {
					p.known(block(192, 192-u.H, u.W, u.H))
				}
				if u.W > 0 && u.W < size {
					want = 1
				}
				if l.W > 0 {
					p.known(block(192-l.W, 192, l.W, l.H))
				}
				if l.W > 0 && l.H < size {
					want += 2
				}
				partIs(t, p, 192, 192, size, want)
				// nothing hangs on what is known there, nor on what is at the corner
				p.known(block(192, 192, 8, 8))
				p.known(block(184, 184, 8, 8))
				partIs(t, p, 192, 192, size, want)
			}
		}
	}
}

// Neighbours that lie over a place's edges only partly, from their first cell to their last one (P17.3).
func TestPartOfShifted(t *testing.T) {
	for _, side := range sides() {
		for by := 0; by < side; by += 8 {
			for _, size := range sizes() {
				want := 0
				if side < size {
					want = 1
				}
				p := pairOf(t, rect(0, 0, 256, 256), block(128-by, 120, side, 8))
				partIs(t, p, 128, 128, size, want)
				p = pairOf(t, rect(0, 0, 256, 256), block(120, 128-by, 8, side))
				partIs(t, p, 128, 128, size, 2*want)
			}
		}
		// one cell further on it is none
		for _, size := range sizes() {
			p := pairOf(t, rect(0, 0, 256, 256), block(128-side, 112, side, 16), block(136, 120, 8, 8), block(112, 128+8, 16, 8))
			partIs(t, p, 128, 128, size, 0)
		}
	}
}

// One block that is both neighbours (P17.3).
func TestPartOfOne(t *testing.T) {
	both := func(at, w, h int) *pair { return pairOf(t, rect(0, 0, 256, 256), block(at, at, w, h)) }
	partIs(t, both(104, 32, 32), 128, 128, 64, 3)
	partIs(t, both(104, 32, 32), 128, 128, 32, 0)
	partIs(t, both(120, 16, 16), 128, 128, 64, 3)
	partIs(t, both(120, 16, 16), 128, 128, 32, 3)
	partIs(t, both(120, 16, 16), 128, 128, 16, 0)
	partIs(t, both(120, 64, 16), 128, 128, 32, 2)
	partIs(t, both(120, 16, 64), 128, 128, 32, 1)
	partIs(t, both(96, 64, 64), 128, 128, 64, 0)
}

// At a tile's upper and left edge there is no such neighbour, though a block begins there (P17.3).
func TestNearEdges(t *testing.T) {
	p := pairOf(t, rect(64, 128, 128, 128))
	for y := 128; y < 256; y += 8 {
		for x := 64; x < 192; x += 8 {
			b := moved(x, y, 8, 8, 0, vec(1, 1))
			b.Skip = true
			p.known(b)
		}
	}
	for _, size := range sizes() {
		partIs(t, p, 64, 128, size, 0)
		partIs(t, p, 128, 128, size, 2)
		partIs(t, p, 64, 192, size, 1)
		partIs(t, p, 128, 192, size, 3)
		for n := size; n < 128; n += size {
			partIs(t, p, 64+n, 128, size, 2)
			partIs(t, p, 64, 128+n, size, 1)
		}
	}
	countsAre(t, p, 64, 128, 0, 0)
	for n := 8; n < 128; n += 8 {
		countsAre(t, p, 64+n, 128, 1, 1)
		countsAre(t, p, 64, 128+n, 1, 1)
		countsAre(t, p, 64+n, 128+n, 2, 2)
	}
}

// Sizes that no region has, at places that are multiples of theirs and at others (P17.3).
func TestWrongSizes(t *testing.T) {
	d := draws(173)
	p := pairOf(t, rect(0, 0, 256, 256))
	p.fill(&d, 200)
	for _, size := range no(sizes()...) {
		for _, at := range []int{0, 16, 64, 192, size} {
			noPart(t, p, at, 0, size)
			noPart(t, p, 64, at, size)
			noPart(t, p, at, at, size)
		}
	}
}

// Places about a tile's edges, one by one, asked of every size: no multiples, and such that are outside (P17.3).
func TestPlacesOfNear(t *testing.T) {
	d := draws(174)
	for _, tile := range append(tiles(), rect(64, 64, 192, 192)) {
		p := pairOf(t, tile)
		p.fill(&d, 100)
		for y := tile.Y - 66; y <= tile.Y+tile.H+66; y++ {
			for x := tile.X - 66; x <= tile.X+tile.W+66; x++ {
				p.counts(x, y)
				for _, size := range sizes() {
					p.part(x, y, size)
				}
			}
		}
		for _, n := range far() {
			for _, o := range []int{tile.X, tile.Y, 0, n} {
				for _, size := range sizes() {
					noPart(t, p, n, o, size)
					noPart(t, p, o, n, size)
				}
				noCounts(t, p, n, o)
				noCounts(t, p, o, n)
			}
		}
	}
}

// Each of the two neighbours being not there, neither Skip nor Inter, one of them, or both: what is counted of each (P17.3).
func TestCounts(t *testing.T) {
	for upper := range 5 {
		for left := range 5 {
			p := pairOf(t, rect(0, 64, 64, 64))
			skip, inter := 0, 0
			for i, kind := range []int{upper, left} {
				if kind == 4 {
					continue
				}
				b := block(32-16*i, 80+8*i, 8+8*i, 8)
				b.Skip, b.Inter = kind&1 == 1, kind&2 == 2
				p.known(b)
				skip += kind & 1
				inter += kind >> 1
			}
			countsAre(t, p, 32, 88, skip, inter)
			// nothing hangs on what is known there, nor on what is at the corner
			b := moved(32, 88, 8, 8, 0, vec(1, 1))
			b.Skip = true
			p.known(b)
			b.X, b.Y = 24, 80
			p.known(b)
			countsAre(t, p, 32, 88, skip, inter)
		}
	}
}

// One block that is both neighbours counts twice (P17.3).
func TestCountsOfOne(t *testing.T) {
	for kind := range 4 {
		b := block(64, 64, 64, 32)
		b.Skip, b.Inter = kind&1 == 1, kind&2 == 2
		p := pairOf(t, rect(64, 64, 64, 64), b)
		for x := 72; x < 128; x += 8 {
			for y := 72; y < 96; y += 8 {
				countsAre(t, p, x, y, 2*(kind&1), kind&2)
			}
			countsAre(t, p, x, 64, kind&1, kind>>1)
			countsAre(t, p, x, 96, kind&1, kind>>1)
		}
	}
}

// Mixed tiles of all places and sizes, asked of everything (P17.2 to P17.4).
func TestMixed(t *testing.T) {
	d := draws(175)
	for range 150 {
		p := pairOf(t, d.tile())
		for range 3 {
			p.fill(&d, d.one(0, 1, 4, 20, 100))
			p.all()
		}
	}
}
