package modes_test

import (
	"fmt"
	"slices"
	"testing"

	"zoetrope/api"
	"zoetrope/grid"
	"zoetrope/modes"
	"zoetrope/syms"
)

// cuts has a coder code a partition, which must answer it. Whoever reads is handed what isn't one.
func cuts(t *testing.T, c *syms.Coder, g *grid.Grid, r api.Rect, kind int) {
	t.Helper()
	given := kind
	if !c.Writes() {
		given = -1
	}
	if got, e := modes.Part(c, g, r, given); got != kind || e != api.OK {
		t.Fatalf("Part(%v, %d): %d, %d", r, kind, got, e)
	}
}

// uncut asks for an error, and for nothing beside it.
func uncut(t *testing.T, c *syms.Coder, g *grid.Grid, r api.Rect, kind int, want api.Errno) {
	t.Helper()
	if got, e := modes.Part(c, g, r, kind); got != 0 || e != want {
		t.Fatalf("Part(%v, %d): %d, %d, want %d", r, kind, got, e, want)
	}
}

func whole() api.Rect { return rect(0, 0, 256, 256) }

// kindsOf is how many ways there are to cut a region of a size.
func kindsOf(size int) int {
	if size == 16 {
		return 8
	}
	return 10
}

// planCut is what is coded of a region, as the chapter tells it.
func planCut(t *testing.T, g *grid.Grid, r api.Rect, kind int) act {
	t.Helper()
	context, e := g.Part(r.X, r.Y, r.W)
	if e != api.OK {
		t.Fatalf("the context of %v: %d", r, e)
	}
	switch r.W {
	case 64:
		return symbol(api.SymPart, context, kind)
	case 32:
		return symbol(api.SymPart, context+4, kind)
	}
	return symbol(api.SymPart16, context, kind)
}

// cutByHand asks whether every kind of a region is coded by just that symbol and context, either way.
func cutByHand(t *testing.T, g *grid.Grid, r api.Rect, kind, context int) {
	t.Helper()
	for i, s := range sets(t) {
		w, by := writer(t, s, i%2 == 0), writer(t, s, i%2 == 0)
		for v := range kindsOf(r.W) {
			cuts(t, w, g, r, v)
			does(t, by, symbol(kind, context, v))
			if w.Count() != v+1 {
				t.Fatalf("%d symbols and bits of %d partitions", w.Count(), v+1)
			}
		}
		what := fmt.Sprintf("partitions of %v in context %d", r, context)
		alike(t, what, w, by)
		read := reader(t, written(t, by), s, i%2 == 0)
		for v := range kindsOf(r.W) {
			cuts(t, read, g, r, v)
		}
		alike(t, what+", read", read, w)
	}
}

// The chapter's row (P18.3).
func TestPartExamples(t *testing.T) {
	w, g := writer(t, syms.Default(), true), gridOf(t, square())
	cuts(t, w, g, rect(0, 0, 64, 64), 9)
	uncut(t, w, g, rect(0, 0, 16, 16), 8, api.ErrArg)
	uncut(t, w, g, rect(0, 0, 8, 8), 0, api.ErrArg)
	uncut(t, w, g, rect(64, 0, 64, 64), 0, api.ErrArg)
	if w.Count() != 1 {
		t.Errorf("Count: %d, want 1", w.Count())
	}
}

// Each kind of each size in each context, by hand: above there is nothing, a block as wide, a narrower one; to the left likewise (P18.3).
func TestEveryPart(t *testing.T) {
	first := map[int]int{64: 0, 32: 4, 16: 0}
	symbols := map[int]int{64: api.SymPart, 32: api.SymPart, 16: api.SymPart16}
	for size, kind := range symbols {
		at := func(above, left *api.Block) *grid.Grid {
			g := gridOf(t, whole())
			for _, b := range []*api.Block{above, left} {
				if b != nil {
					known(t, g, *b)
				}
			}
			return g
		}
		upper, lefter := []*api.Block{nil}, []*api.Block{nil}
		for _, side := range sides() {
			for _, other := range []int{8, 16, 32, 64} {
				a, b := intra(64, 64-other, side, other), intra(64-other, 64, other, side)
				upper, lefter = append(upper, &a), append(lefter, &b)
			}
		}
		for _, a := range upper {
			for _, b := range lefter {
				context := first[size]
				if a != nil && a.W < size {
					context++
				}
				if b != nil && b.H < size {
					context += 2
				}
				if a != nil && b != nil && (a.H+b.W)%48 != 0 {
					continue // a few of those that differ by nothing that counts
				}
				cutByHand(t, at(a, b), rect(64, 64, size, size), kind, context)
			}
		}
	}
}

// In a tile's upper left corner nothing is about a region; the contexts' neighbours are those of the region's corner alone (P18.3).
func TestPartsAtCorners(t *testing.T) {
	for _, tile := range []api.Rect{square(), whole(), rect(192, 192, 8, 8), rect(64, 128, 16, 72)} {
		g := gridOf(t, tile)
		cutByHand(t, g, rect(tile.X, tile.Y, 64, 64), api.SymPart, 0)
		cutByHand(t, g, rect(tile.X, tile.Y, 32, 32), api.SymPart, 4)
		cutByHand(t, g, rect(tile.X, tile.Y, 16, 16), api.SymPart16, 0)
	}
	g := gridOf(t, whole(), intra(32, 24, 8, 8), intra(40, 16, 16, 16), intra(16, 32, 16, 8), intra(8, 40, 32, 16), intra(32, 32, 8, 8))
	cutByHand(t, g, rect(32, 32, 16, 16), api.SymPart16, 3)
	cutByHand(t, g, rect(32, 32, 32, 32), api.SymPart, 7)
	cutByHand(t, g, rect(32, 64, 32, 32), api.SymPart, 4)
	g = gridOf(t, whole(), intra(48, 48, 16, 16), intra(32, 16, 32, 16), intra(0, 32, 32, 8))
	cutByHand(t, g, rect(64, 64, 64, 64), api.SymPart, 0) // the corner counts for nothing
	cutByHand(t, g, rect(32, 32, 32, 32), api.SymPart, 6)
	cutByHand(t, g, rect(32, 32, 16, 16), api.SymPart16, 2)
	cutByHand(t, g, rect(48, 32, 16, 16), api.SymPart16, 0)
	cutByHand(t, g, rect(48, 64, 16, 16), api.SymPart16, 0)
}

// Of a writer a kind beyond what a size has is refused, and nothing is written (P18.3).
func TestWrongKinds(t *testing.T) {
	d := draws(51)
	for _, size := range []int{64, 32, 16} {
		w, was := writer(t, syms.Default(), true), writer(t, syms.Default(), true)
		g := d.filled(t, whole(), 20)
		for _, n := range all() {
			r := rect(64*d.below(4), 64*d.below(4), size, size)
			if n < 0 || n >= kindsOf(size) {
				uncut(t, w, g, r, n, api.ErrArg)
				continue
			}
			cuts(t, w, g, r, n)
			does(t, was, planCut(t, g, r, n))
		}
		alike(t, fmt.Sprintf("kinds that a region of %d has not", size), w, was)
	}
}

// Of a reader the kind counts for nothing (P18.3).
func TestReaderTakesAnyKind(t *testing.T) {
	d := draws(52)
	for _, s := range sets(t) {
		g := d.filled(t, whole(), 40)
		for _, bytes := range samples() {
			r, m := reader(t, bytes, s, true), reader(t, bytes, s, true)
			for range 20 {
				size := d.one(64, 32, 16)
				q := rect(size*d.below(256/size), size*d.below(256/size), size, size)
				a := planCut(t, g, q, 0)
				want := source{t, m}.symbol(a.kind, a.context)
				if got, e := modes.Part(r, g, q, d.one(all()...)); got != want || e != api.OK || got < 0 || got >= kindsOf(size) {
					t.Fatalf("%v of %x: %d, %d, want %d", q, bytes, got, e, want)
				}
			}
			alike(t, "partitions of any bytes", r, m)
		}
	}
}

// pair are a writer and a reader of which each has a twin, having coded something.
func pair(t *testing.T) [2][2]*syms.Coder {
	t.Helper()
	d := draws(53)
	g, bytes := gridOf(t, square()), d.bytes(200)
	var l [2][2]*syms.Coder
	for i := range 2 {
		w, r := writer(t, syms.Default(), true), reader(t, bytes, syms.Default(), true)
		codes(t, w, g, intra(8, 8, 16, 16), plain)
		cuts(t, w, g, rect(32, 32, 32, 32), 4)
		source{t, r}.block(g, intra(8, 8, 16, 16), frame{true, false})
		l[0][i], l[1][i] = w, r
	}
	return l
}

// goesOn asks whether two coders stand alike, and go on alike.
func goesOn(t *testing.T, what string, a, b *syms.Coder) {
	t.Helper()
	alike(t, what, a, b)
	d := draws(54)
	g := d.filled(t, square(), 5)
	for range 6 {
		x := d.block(t, g, d.shape(square()), plain)
		u, e := modes.Code(a, g, x, false, false)
		v, f := modes.Code(b, g, x, false, false)
		if u != v || e != f {
			t.Fatalf("%s: %+v, %d and %+v, %d", what, u, e, v, f)
		}
	}
	alike(t, what+", and further on", a, b)
}

// Sizes that a region has not, of both sides: nothing is written, and nothing is read (P18.3).
func TestWrongRegions(t *testing.T) {
	right := []int{64, 32, 16}
	for _, l := range pair(t) {
		g := gridOf(t, whole())
		for _, n := range all() {
			if !slices.Contains(right, n) {
				uncut(t, l[0], g, rect(0, 0, n, n), 0, api.ErrArg)
			}
			for _, size := range right {
				if n != size {
					uncut(t, l[0], g, rect(0, 0, n, size), 0, api.ErrArg)
					uncut(t, l[0], g, rect(0, 0, size, n), 0, api.ErrArg)
				}
				if n < 0 || n > 255 || n%size != 0 {
					uncut(t, l[0], g, rect(n, 0, size, size), 0, api.ErrArg)
					uncut(t, l[0], g, rect(0, n, size, size), 0, api.ErrArg)
					uncut(t, l[0], g, rect(n, n, size, size), 0, api.ErrArg)
					uncut(t, l[0], g, rect(n, n, size, size), -1, api.ErrArg)
				}
			}
		}
		uncut(t, l[0], g, api.Rect{}, 0, api.ErrArg)
		goesOn(t, "regions that are none", l[0], l[1])
	}
}

// Every place of tiles of all sorts: those that are multiples of the size and in the tile are taken, wherever the region ends (P18.3).
func TestPlacesOfRegions(t *testing.T) {
	for _, tile := range []api.Rect{square(), whole(), rect(64, 0, 72, 8), rect(128, 192, 128, 64), rect(192, 64, 8, 192), rect(0, 128, 24, 40)} {
		for _, l := range pair(t) {
			g := gridOf(t, tile)
			for _, size := range []int{64, 32, 16} {
				for x := -16; x <= 272; x += 8 {
					for y := -16; y <= 272; y += 8 {
						in := tile.X <= x && x < tile.X+tile.W && tile.Y <= y && y < tile.Y+tile.H
						q := rect(x, y, size, size)
						if !in || x%size != 0 || y%size != 0 {
							uncut(t, l[0], g, q, 3, api.ErrArg)
							continue
						}
						want := 3
						if l[0].Writes() {
							does(t, l[1], planCut(t, g, q, 3))
						} else {
							a := planCut(t, g, q, 3)
							want = source{t, l[1]}.symbol(a.kind, a.context)
						}
						if got, e := modes.Part(l[0], g, q, 3); got != want || e != api.OK {
							t.Fatalf("Part(%v) of %v: %d, %d, want %d", q, tile, got, e, want)
						}
					}
				}
			}
			goesOn(t, fmt.Sprintf("regions of %v", tile), l[0], l[1])
		}
	}
	for _, off := range []int{1, 2, 4, 8, 12, 17, 31, 63} {
		for _, l := range pair(t) {
			g := gridOf(t, whole())
			for _, size := range []int{64, 32, 16} {
				uncut(t, l[0], g, rect(off, 0, size, size), 0, api.ErrArg)
				uncut(t, l[0], g, rect(64, 64+off, size, size), 0, api.ErrArg)
			}
			goesOn(t, "places that are no multiples", l[0], l[1])
		}
	}
}

// ofNone has something asked of every coder and grid of which one is none; the coders that are not are left as they were.
func ofNone(t *testing.T, ask func(c *syms.Coder, g *grid.Grid)) {
	t.Helper()
	l := pair(t)
	for _, c := range []*syms.Coder{nil, {}} {
		for _, g := range []*grid.Grid{gridOf(t, square()), nil, {}} {
			ask(c, g)
		}
	}
	for _, g := range []*grid.Grid{nil, {}} {
		ask(l[0][0], g)
		ask(l[1][0], g)
	}
	goesOn(t, "no grid", l[0][0], l[0][1])
	goesOn(t, "no grid, read", l[1][0], l[1][1])
}

// A coder or a grid that is none, whatever is handed in beside it (P18.3).
func TestPartOfNone(t *testing.T) {
	ofNone(t, func(c *syms.Coder, g *grid.Grid) {
		for _, r := range []api.Rect{rect(0, 0, 64, 64), rect(0, 0, 16, 16), rect(0, 0, 16, 32), rect(0, 0, 8, 8), rect(1, 2, 3, 4), rect(64, 0, 64, 64), {}} {
			for _, kind := range []int{0, 7, 8, 9, 10, -1} {
				uncut(t, c, g, r, kind, api.ErrNil)
			}
		}
	})
}
