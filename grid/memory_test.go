package grid_test

import (
	"slices"
	"testing"

	"zoetrope/api"
)

// spoil changes a list of blocks, its spare room too.
func spoil(l []api.Block) {
	l = l[:cap(l)]
	for i := range l {
		l[i] = moved(-1, -2, -3, -4, 7, vec(8, 9))
	}
}

// Blocks are new memory each time, whatever becomes of those answered before (P17.5).
func TestMemoryOfBlocks(t *testing.T) {
	d := draws(178)
	for range 40 {
		p := pairOf(t, d.tile())
		for range 12 {
			first, second := p.g.Blocks(), p.g.Blocks()
			before := slices.Clone(second)
			spoil(first)
			if !slices.Equal(second, before) {
				t.Fatal("two answers share memory")
			}
			p.blocks()
			// what is put behind an answer is not seen in it, nor the other way about
			longer := append(p.g.Blocks(), block(1, 2, 3, 4), block(5, 6, 7, 8))
			p.fill(&d, d.one(1, 2, 10))
			if !slices.Equal(second, before) || !slices.Equal(longer[:len(before)], before) || longer[len(before)] != block(1, 2, 3, 4) || longer[len(before)+1] != block(5, 6, 7, 8) {
				t.Fatal("an answer shares memory with the grid")
			}
			spoil(longer)
			spoil(second)
			p.blocks()
		}
		p.all()
	}
}

// A block that was handed in may be changed, and one that was answered: the grid's is another one (P17.5).
func TestMemoryOfPut(t *testing.T) {
	l := []api.Block{moved(0, 0, 8, 8, 1, vec(3, -4)), moved(8, 0, 8, 8, 1, vec(5, 6))}
	before := slices.Clone(l)
	p := pairOf(t, rect(0, 0, 64, 64))
	for i := range l {
		p.known(l[i])
	}
	if !slices.Equal(l, before) {
		t.Fatal("blocks are changed")
	}
	spoil(l)
	p.all()
	b, _ := p.g.At(3, 3)
	b.Mv[0], b.Ref[0], b.Inter = vec(99, 99), 2, false
	v, _, _ := p.g.Vecs(rect(16, 0, 8, 8), 1)
	v[0] = vec(77, 77)
	p.all()
	tile := rect(0, 0, 64, 64)
	g := made(t, tile)
	tile.X, tile.W = 64, 8
	if e := g.Put(block(56, 56, 8, 8)); e != api.OK {
		t.Fatalf("Put: %d", e)
	}
}

// What is asked changes nothing, and grids know nothing of each other, though their tiles lie over one another (R2, P17.5).
func TestGridsAlone(t *testing.T) {
	d := draws(179)
	for range 30 {
		var l []*pair
		tile := d.tile()
		for range 4 {
			l = append(l, pairOf(t, tile))
			tile = rect(d.one(0, 64), d.one(0, 64), 64, 64)
		}
		for range 40 {
			l[d.below(4)].fill(&d, d.below(4))
			p := l[d.below(4)]
			x, y := p.m.tile.X+8*d.below(p.m.tile.W/8), p.m.tile.Y+8*d.below(p.m.tile.H/8)
			p.told(x, y)
			p.told(x, y)
			p.at(x+d.below(8), y+d.below(8))
		}
		for _, p := range l {
			p.all()
		}
	}
}
