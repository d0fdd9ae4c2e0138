package grid_test

import (
	"testing"

	"zoetrope/api"
)

// Each sample of a tile is of one block at most, the one that was put there (P17.6).
func TestOneBlockAtMost(t *testing.T) {
	d := draws(180)
	for range 60 {
		tile := d.tile()
		g := made(t, tile)
		var put []api.Block
		for range d.one(3, 30, 300) {
			b := d.coded(tile.X+8*d.below(tile.W/8), tile.Y+8*d.below(tile.H/8), d.one(sides()...), d.one(sides()...))
			if g.Put(b) == api.OK {
				put = append(put, b)
			}
		}
		for y := tile.Y; y < tile.Y+tile.H; y++ {
			for x := tile.X; x < tile.X+tile.W; x++ {
				many := 0
				var want api.Block
				for _, b := range put {
					if b.X <= x && x < b.X+b.W && b.Y <= y && y < b.Y+b.H {
						many++
						want = b
					}
				}
				if b, ok := g.At(x, y); many > 1 || ok != (many == 1) || b != want {
					t.Fatalf("tile %v: At(%d, %d): %v, %v, %d blocks, the last one %v", tile, x, y, b, ok, many, want)
				}
			}
		}
	}
}

// covers tells whether a sample is of a block.
func covers(b api.Block, x, y int) bool { return b.X <= x && x < b.X+b.W && b.Y <= y && y < b.Y+b.H }

// answers is all that is told of a place by those blocks alone.
func answers(t *testing.T, tile, r api.Rect, l []api.Block) [10]int {
	t.Helper()
	p := pairOf(t, tile, l...)
	var n [10]int
	for i, size := range sizes() {
		n[i], _ = p.g.Part(r.X, r.Y, size)
	}
	n[3], _ = p.g.Skip(r.X, r.Y)
	n[4], _ = p.g.Inter(r.X, r.Y)
	for ref := range 3 {
		v, many, e := p.g.Vecs(r, ref)
		if e != api.OK {
			t.Fatalf("Vecs(%v, %d): %d", r, ref, e)
		}
		n[5+ref] = many
		n[8] = 31*n[8] + v[0].X + 3*v[0].Y
		n[9] = 31*n[9] + v[1].X + 3*v[1].Y
	}
	return n
}

// What is told of a place is the same without the blocks that don't touch it: those that have neither the sample left of it, nor one above it, nor one at its upper corners (P17.6).
func TestOthersCountForNothing(t *testing.T) {
	d := draws(181)
	for range 200 {
		p := pairOf(t, d.tile())
		p.fill(&d, d.one(5, 30, 200))
		for range 20 {
			r := rect(p.m.tile.X+8*d.below(p.m.tile.W/8), p.m.tile.Y+8*d.below(p.m.tile.H/8), 8*(1+d.below(8)), 8)
			var near []api.Block
			for _, b := range p.m.blocks {
				if covers(b, r.X-1, r.Y) || covers(b, r.X, r.Y-1) || covers(b, r.X+r.W, r.Y-1) || covers(b, r.X-1, r.Y-1) {
					near = append(near, b)
				}
			}
			if len(near) > 4 {
				t.Fatalf("%v: %v", r, near)
			}
			if all, few := answers(t, p.m.tile, r, p.m.blocks), answers(t, p.m.tile, r, near); all != few {
				t.Fatalf("tile %v, %v: %v by all, %v by %v", p.m.tile, r, all, few, near)
			}
		}
	}
}

// What is told of a place is the same whatever the order in which blocks were put (P17.6).
func TestOrderCountsForNothing(t *testing.T) {
	d := draws(182)
	for range 100 {
		p := pairOf(t, d.tile())
		p.fill(&d, 60)
		turned := make([]api.Block, 0, len(p.m.blocks))
		for _, i := range shuffled(&d, len(p.m.blocks)) {
			turned = append(turned, p.m.blocks[i])
		}
		for range 20 {
			r := rect(p.m.tile.X+8*d.below(p.m.tile.W/8), p.m.tile.Y+8*d.below(p.m.tile.H/8), 8*(1+d.below(8)), 8)
			if first, second := answers(t, p.m.tile, r, p.m.blocks), answers(t, p.m.tile, r, turned); first != second {
				t.Fatalf("tile %v, %v: %v, turned %v", p.m.tile, r, first, second)
			}
		}
	}
}

// shuffled are the numbers below n, in some order.
func shuffled(d *draws, n int) []int {
	l := make([]int, n)
	for i := range l {
		j := d.below(i + 1)
		l[i] = l[j]
		l[j] = i
	}
	return l
}

// Of blocks nothing counts but what the chapter names: how they are predicted, transformed and filtered does not (P17.6).
func TestOtherFieldsCountForNothing(t *testing.T) {
	d := draws(183)
	for range 100 {
		p := pairOf(t, d.tile())
		p.fill(&d, 60)
		other := make([]api.Block, len(p.m.blocks))
		for i, b := range p.m.blocks {
			c := d.coded(b.X, b.Y, b.W, b.H)
			c.Skip, c.Inter, c.Comp, c.Ref, c.Mv = b.Skip, b.Inter, b.Comp, b.Ref, b.Mv
			other[i] = c
		}
		for range 20 {
			r := rect(p.m.tile.X+8*d.below(p.m.tile.W/8), p.m.tile.Y+8*d.below(p.m.tile.H/8), 8*(1+d.below(8)), 8)
			if first, second := answers(t, p.m.tile, r, p.m.blocks), answers(t, p.m.tile, r, other); first != second {
				t.Fatalf("tile %v, %v: %v, with other fields %v", p.m.tile, r, first, second)
			}
		}
	}
}
