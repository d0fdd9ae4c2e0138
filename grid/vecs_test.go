package grid_test

import (
	"math"
	"testing"

	"zoetrope/api"
)

// vecsAre asks for just these candidates, by hand.
func vecsAre(t *testing.T, p *pair, r api.Rect, ref int, want ...api.Vec) {
	t.Helper()
	var both [2]api.Vec
	copy(both[:], want)
	if v, n, e := p.g.Vecs(r, ref); v != both || n != len(want) || e != api.OK {
		t.Fatalf("Vecs(%v, %d): %v, %d, %d, want %v", r, ref, v, n, e, want)
	}
}

// noVecs asks for ErrArg, and for nothing beside it.
func noVecs(t *testing.T, p *pair, r api.Rect, ref int) {
	t.Helper()
	if v, n, e := p.g.Vecs(r, ref); v != [2]api.Vec{} || n != 0 || e != api.ErrArg {
		t.Fatalf("Vecs(%v, %d): %v, %d, %d", r, ref, v, n, e)
	}
}

// The chapter's row (P17.4).
func TestVecsOfExamples(t *testing.T) {
	p := examples(t)
	vecsAre(t, p, rect(24, 0, 8, 8), 1, vec(3, -4))
	vecsAre(t, p, rect(16, 8, 8, 8), 1, vec(3, -4))
	vecsAre(t, p, rect(24, 0, 8, 8), 0)
	noVecs(t, p, rect(0, 0, 8, 8), 3)
}

// about is where the four candidates of a rectangle are, in their order, as blocks of 8 by 8.
func about(r api.Rect) []api.Block {
	return []api.Block{block(r.X-8, r.Y, 8, 8), block(r.X, r.Y-8, 8, 8), block(r.X+r.W, r.Y-8, 8, 8), block(r.X-8, r.Y-8, 8, 8)}
}

// Each candidate alone, of rectangles of every width; what lies one cell beside it is none (P17.4).
func TestVecsOfOne(t *testing.T) {
	for w := 8; w <= 64; w += 8 {
		r := rect(128, 128, w, 8)
		for i, b := range about(r) {
			b.Inter, b.Mv[0] = true, vec(i+1, -i)
			vecsAre(t, pairOf(t, rect(64, 64, 192, 192), b), r, 0, vec(i+1, -i))
		}
		// everything else about it: only the four count
		p := pairOf(t, rect(64, 64, 192, 192))
		for y := 96; y <= 168; y += 8 {
			for x := 96; x <= 224; x += 8 {
				b := moved(x, y, 8, 8, 0, vec(x, y))
				four := false
				for _, c := range about(r) {
					four = four || c.X == x && c.Y == y
				}
				if !four {
					p.known(b)
				}
			}
		}
		vecsAre(t, p, r, 0)
		for i, b := range about(r) {
			b.Inter, b.Mv[0] = true, vec(7, i)
			p.known(b)
			if i > 0 {
				vecsAre(t, p, r, 0, vec(7, 0), vec(7, 1))
			} else {
				vecsAre(t, p, r, 0, vec(7, 0))
			}
		}
	}
}

// The four candidates come in their order: left, above, above at the right, above at the left (P17.4).
func TestVecsInOrder(t *testing.T) {
	for w := 8; w <= 64; w += 8 {
		r := rect(128, 128, w, 8)
		for which := range 16 {
			for turn := range 24 {
				p := pairOf(t, rect(64, 64, 192, 192))
				l := about(r)
				var want []api.Vec
				for i := range l {
					l[i].Inter = which>>i&1 == 1
					l[i].Mv[0] = vec(10*i, 5-i)
					if l[i].Inter && len(want) < 2 {
						want = append(want, l[i].Mv[0])
					}
				}
				// whatever the order in which they were put
				for left, n := l, turn; len(left) > 0; {
					i := n % len(left)
					n /= len(left)
					p.known(left[i])
					left = append(left[:i:i], left[i+1:]...)
				}
				vecsAre(t, p, r, 0, want...)
			}
		}
	}
}

// kinds are what a candidate may be, for the frame that is asked for: none there, of no use, or with one of three vectors, by its first frame or its second one.
func kinds(ref int) []api.Block {
	other, a, b, c, no := (ref+1)%3, vec(3, -4), vec(3, 4), vec(0, 0), vec(99, 99)
	return []api.Block{
		{},
		{Ref: [2]int{ref, ref}, Comp: true, Mv: [2]api.Vec{a, b}},
		{Inter: true, Ref: [2]int{other, ref}, Mv: [2]api.Vec{no, b}},
		{Inter: true, Ref: [2]int{other, other}, Comp: true, Mv: [2]api.Vec{no, no}},
		{Inter: true, Ref: [2]int{ref, other}, Mv: [2]api.Vec{a, no}},
		{Inter: true, Ref: [2]int{ref, ref}, Comp: true, Mv: [2]api.Vec{b, no}},
		{Inter: true, Ref: [2]int{ref, ref}, Mv: [2]api.Vec{c, a}},
		{Inter: true, Ref: [2]int{other, ref}, Comp: true, Mv: [2]api.Vec{no, a}},
		{Inter: true, Ref: [2]int{other, ref}, Comp: true, Skip: true, Mv: [2]api.Vec{no, b}},
	}
}

// All four candidates being anything that they may be: alike or unlike, of the frame that is asked for or of another one, there or not (P17.4).
func TestVecsOfAll(t *testing.T) {
	for ref := range 3 {
		l := kinds(ref)
		for i := range len(l) * len(l) * len(l) * len(l) {
			r := rect(64, 64, 8*(1+i%8), 8)
			g := made(t, rect(0, 0, 256, 256))
			var want []api.Vec
			for at, n := 0, i; at < 4; at, n = at+1, n/len(l) {
				kind, b := n%len(l), about(r)[at]
				c := l[kind]
				c.X, c.Y, c.W, c.H = b.X, b.Y, b.W, b.H
				if kind == 0 {
					continue
				}
				if e := g.Put(c); e != api.OK {
					t.Fatalf("Put(%v): %d", c, e)
				}
				v := []api.Vec{4: vec(3, -4), 5: vec(3, 4), 6: vec(0, 0), 7: vec(3, -4), 8: vec(3, 4)}
				if kind >= 4 && (len(want) == 0 || len(want) == 1 && want[0] != v[kind]) {
					want = append(want, v[kind])
				}
			}
			vecsAre(t, &pair{t: t, g: g}, r, ref, want...)
		}
	}
}

// By hand: of three and four of which the first are alike, of more than two that are unlike, of those that are unlike in one part alone (P17.4).
func TestVecsByHand(t *testing.T) {
	a, b, c, d := vec(1, 2), vec(1, 3), vec(2, 2), vec(0, 0)
	for _, x := range []struct{ have, want []api.Vec }{
		{[]api.Vec{a}, []api.Vec{a}},
		{[]api.Vec{d}, []api.Vec{d}},
		{[]api.Vec{a, a}, []api.Vec{a}},
		{[]api.Vec{d, d, d, d}, []api.Vec{d}},
		{[]api.Vec{a, b}, []api.Vec{a, b}},
		{[]api.Vec{a, c}, []api.Vec{a, c}},
		{[]api.Vec{b, a}, []api.Vec{b, a}},
		{[]api.Vec{d, a}, []api.Vec{d, a}},
		{[]api.Vec{a, d}, []api.Vec{a, d}},
		{[]api.Vec{a, a, b}, []api.Vec{a, b}},
		{[]api.Vec{a, a, d}, []api.Vec{a, d}},
		{[]api.Vec{a, a, a, c}, []api.Vec{a, c}},
		{[]api.Vec{a, a, a, a}, []api.Vec{a}},
		{[]api.Vec{a, a, b, c}, []api.Vec{a, b}},
		{[]api.Vec{a, b, c, d}, []api.Vec{a, b}},
		{[]api.Vec{a, b, b, a}, []api.Vec{a, b}},
		{[]api.Vec{d, c, b, a}, []api.Vec{d, c}},
		{[]api.Vec{a, b, a, c}, []api.Vec{a, b}},
	} {
		r := rect(72, 72, 16, 8)
		p := pairOf(t, rect(64, 64, 64, 64))
		for i, v := range x.have {
			n := about(r)[i]
			n.Inter, n.Ref[0], n.Mv[0] = true, 2, v
			p.known(n)
		}
		vecsAre(t, p, r, 2, x.want...)
		vecsAre(t, p, r, 1)
		vecsAre(t, p, r, 0)
	}
}

// One block that is several candidates counts once: its vectors are alike (P17.4).
func TestVecsOfOneBlock(t *testing.T) {
	tile := rect(0, 0, 64, 64)
	a, b := vec(5, 6), vec(-7, 8)
	// above and above at the left
	vecsAre(t, pairOf(t, tile, moved(8, 8, 16, 8, 0, a)), rect(16, 16, 8, 8), 0, a)
	// all three above
	vecsAre(t, pairOf(t, tile, moved(8, 8, 32, 8, 0, a)), rect(16, 16, 16, 8), 0, a)
	// left and above at the left
	vecsAre(t, pairOf(t, tile, moved(8, 8, 8, 16, 0, a)), rect(16, 16, 8, 8), 0, a)
	// all four, of a place that is known
	vecsAre(t, pairOf(t, tile, moved(8, 8, 32, 32, 0, a)), rect(16, 16, 16, 8), 0, a)
	// with another one behind it
	vecsAre(t, pairOf(t, tile, moved(8, 8, 8, 16, 0, a), moved(40, 8, 8, 8, 0, b)), rect(16, 16, 24, 8), 0, a, b)
	vecsAre(t, pairOf(t, tile, moved(8, 8, 32, 8, 0, a), moved(8, 16, 8, 8, 0, b)), rect(16, 16, 16, 8), 0, b, a)
	// that has vectors into two frames: of each frame one
	c := moved(8, 8, 8, 16, 0, a)
	c.Comp, c.Ref[1], c.Mv[1] = true, 2, b
	vecsAre(t, pairOf(t, tile, c), rect(16, 16, 8, 8), 0, a)
	vecsAre(t, pairOf(t, tile, c), rect(16, 16, 8, 8), 2, b)
	vecsAre(t, pairOf(t, tile, c), rect(16, 16, 8, 8), 1)
	// into one frame twice: the first one alone
	c.Ref[1] = 0
	vecsAre(t, pairOf(t, tile, c), rect(16, 16, 8, 8), 0, a)
}

// Vectors and frames at both ends of what a number may be are told as they are (P17.4).
func TestVecsAtEnds(t *testing.T) {
	ends := []int{math.MaxInt, math.MinInt, math.MaxInt - 1, math.MinInt + 1, math.MaxInt32, math.MinInt32, api.MaxVec, -api.MaxVec, 1 << 16, -1}
	r := rect(8, 8, 8, 8)
	for _, x := range ends {
		for _, y := range ends {
			for _, ref := range ends {
				b := about(r)[0]
				b.Inter, b.Ref, b.Mv = true, [2]int{ref, 1}, [2]api.Vec{vec(y, x), vec(x, y)}
				p := pairOf(t, rect(0, 0, 64, 64), b)
				vecsAre(t, p, r, 1)
				vecsAre(t, p, r, 0)
				b = about(r)[1]
				b.Inter, b.Comp, b.Ref, b.Mv = true, true, [2]int{ref, 1}, [2]api.Vec{vec(y, x), vec(x, y)}
				p.known(b)
				vecsAre(t, p, r, 1, vec(x, y))
				b = about(r)[2]
				b.Inter, b.Ref, b.Mv[0] = true, [2]int{1, ref}, vec(x, 0)
				p.known(b)
				vecsAre(t, p, r, 1, vec(x, y), vec(x, 0))
			}
		}
	}
}

// Candidates outside the tile are none, though all of the tile is known: at each of its edges and corners (P17.4).
func TestVecsAtEdges(t *testing.T) {
	tile := rect(64, 128, 64, 64)
	p := pairOf(t, tile)
	for y := 128; y < 192; y += 8 {
		for x := 64; x < 128; x += 8 {
			p.known(moved(x, y, 8, 8, 1, vec(x, y)))
		}
	}
	for w := 8; w <= 64; w += 8 {
		vecsAre(t, p, rect(64, 128, w, 8), 1)
		vecsAre(t, p, rect(72, 128, w, 8), 1, vec(64, 128))
		vecsAre(t, p, rect(120, 128, w, 8), 1, vec(112, 128))
		vecsAre(t, p, rect(120, 184, w, 8), 1, vec(112, 184), vec(120, 176))
		vecsAre(t, p, rect(120, 136, w, 8), 1, vec(112, 136), vec(120, 128))
		if w < 64 {
			vecsAre(t, p, rect(64, 136, w, 8), 1, vec(64, 128), vec(64+w, 128))
		} else {
			vecsAre(t, p, rect(64, 136, w, 8), 1, vec(64, 128))
		}
	}
	// the upper ones are of no use: the corner's is next, unless it is outside
	p = pairOf(t, tile, block(120, 128, 8, 8), moved(112, 128, 8, 8, 1, vec(9, 9)), block(112, 136, 8, 8))
	vecsAre(t, p, rect(120, 136, 8, 8), 1, vec(9, 9))
	p = pairOf(t, rect(0, 0, 64, 64), moved(0, 0, 8, 8, 0, vec(1, 1)), moved(56, 0, 8, 8, 0, vec(2, 2)), moved(0, 56, 8, 8, 0, vec(3, 3)), moved(56, 56, 8, 8, 0, vec(4, 4)))
	p.all()
}

// A rectangle's height counts for nothing (P17.4).
func TestVecsOfAnyHeight(t *testing.T) {
	p := examples(t)
	for _, h := range append(no(), 0, 8) {
		vecsAre(t, p, rect(24, 0, 8, h), 1, vec(3, -4))
		vecsAre(t, p, rect(16, 8, 64, h), 1, vec(3, -4))
		vecsAre(t, p, rect(8, 8, 8, h), 1, vec(3, -4))
		vecsAre(t, p, rect(48, 48, 8, h), 1)
	}
}

// Places of rectangles about a tile's edges, one by one, and far away (P17.4).
func TestPlacesOfVecs(t *testing.T) {
	d := draws(176)
	for _, tile := range tiles() {
		p := pairOf(t, tile)
		p.fill(&d, 100)
		for y := tile.Y - 18; y <= tile.Y+tile.H+18; y++ {
			for x := tile.X - 18; x <= tile.X+tile.W+18; x++ {
				p.vecs(rect(x, y, 8*(1+(x+y)&7), 8), (x+2*y+200)%3)
			}
		}
		for _, n := range far() {
			for _, o := range []int{tile.X, tile.Y, 0, n} {
				p.vecs(rect(n, o, 8, 8), 0)
				p.vecs(rect(o, n, 64, 8), 1)
			}
		}
	}
}

// Widths that no rectangle has, and frames that there are not, each alone and together (P17.4).
func TestWrongVecs(t *testing.T) {
	d := draws(177)
	for _, tile := range []api.Rect{rect(0, 0, 256, 256), rect(64, 128, 72, 40)} {
		p := pairOf(t, tile)
		p.fill(&d, 100)
		for _, w := range no(8, 16, 24, 32, 40, 48, 56, 64) {
			for ref := -1; ref <= 3; ref++ {
				noVecs(t, p, rect(64, 128, w, 8), ref)
				noVecs(t, p, rect(72, 136, w, w), ref)
			}
		}
		for _, ref := range no(0, 1, 2) {
			for w := 8; w <= 64; w += 8 {
				noVecs(t, p, rect(64, 128, w, 8), ref)
				noVecs(t, p, rect(72, 136, w, 8), ref)
			}
			noVecs(t, p, rect(68, 128, 8, 8), ref)
			noVecs(t, p, rect(64, -8, 8, 8), ref)
		}
		noVecs(t, p, rect(64, 128, 0, 0), 0)
	}
}
