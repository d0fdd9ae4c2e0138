package modes_test

import (
	"fmt"
	"slices"
	"testing"

	"zoetrope/api"
	"zoetrope/grid"
	"zoetrope/modes"
	"zoetrope/syms"
)

// knowledge is all that a grid of a tile tells.
func knowledge(t *testing.T, g *grid.Grid, tile api.Rect) string {
	t.Helper()
	s := fmt.Sprint(g.Blocks())
	for y := tile.Y; y < tile.Y+tile.H; y += 8 {
		for x := tile.X; x < tile.X+tile.W; x += 8 {
			b, ok := g.At(x, y)
			skip, inter := asked(t, g, shaped(x, y, 8, 8))
			s += fmt.Sprint(b, ok, skip, inter)
			for ref := range 3 {
				near, n := candidates(t, g, shaped(x, y, 16, 8), ref)
				s += fmt.Sprint(near, n)
			}
		}
	}
	return s
}

// A grid is only asked, by a writer and by a reader, whether a block is refused or not: it never knows the block (P18.2, P18.4).
func TestGridOnlyAsked(t *testing.T) {
	d := draws(71)
	for i := range 8 {
		tile := d.tile()
		g := d.filled(t, tile, 5*i)
		before := knowledge(t, g, tile)
		for _, l := range pair(t) {
			for range 40 {
				f := frames()[d.below(4)]
				b := d.block(t, g, d.shape(tile), f)
				modes.Code(l[0], g, b, f.key, f.lossless)
				b.TxSize, b.Mv[0].X = d.one(4, 8, 16), d.one(-5000, 0, 1)
				modes.Code(l[0], g, b, f.key, f.lossless)
				modes.Part(l[0], g, rect(b.X&^15, b.Y&^15, 16, 16), d.below(10))
				modes.Code(nil, g, b, f.key, f.lossless)
			}
		}
		modes.Check(shaped(0, 0, 8, 8), false, false)
		if knowledge(t, g, tile) != before {
			t.Fatalf("the grid of %v has changed", tile)
		}
	}
}

// What was answered is the caller's: what is done to it changes neither the coder, nor the grid, nor other answers (P18.4).
func TestAnswersAreNew(t *testing.T) {
	d := draws(72)
	g := d.filled(t, whole(), 30)
	before := knowledge(t, g, whole())
	w, quiet := writer(t, syms.Default(), true), writer(t, syms.Default(), true)
	spoil := func(b *api.Block) {
		for _, x := range fields() {
			*x.of(b) = -77
		}
		for _, flag := range flags() {
			*flag(b) = !*flag(b)
		}
	}
	var given, kept []api.Block
	for range 60 {
		b := d.block(t, g, d.shape(whole()), plain)
		handed := b
		got, e := modes.Code(w, g, handed, false, false)
		if got != b || handed != b || e != api.OK {
			t.Fatalf("%+v: %+v, %d; handed in %+v", b, got, e, handed)
		}
		spoil(&got)
		spoil(&handed)
		codes(t, quiet, g, b, plain)
		given = append(given, b)
	}
	alike(t, "answers that were changed", w, quiet)
	r := reader(t, written(t, w), syms.Default(), true)
	for i, b := range given {
		got, e := modes.Code(r, g, b, false, false)
		if e != api.OK {
			t.Fatalf("%+v: %d", b, e)
		}
		kept = append(kept, got)
		if i%2 == 1 {
			spoil(&got)
		}
	}
	if !slices.Equal(kept, given) {
		t.Error("an answer has changed with later ones")
	}
	if knowledge(t, g, whole()) != before {
		t.Error("the grid has changed")
	}
}

// Coders that take turns, with one grid and with several, are as if each were alone (P18.4).
func TestTurns(t *testing.T) {
	d := draws(73)
	var l [3][]api.Block
	var g [3]*grid.Grid
	for i := range l {
		g[i] = d.filled(t, square(), 6*i)
		for range 30 {
			l[i] = append(l[i], d.block(t, g[i], d.shape(square()), plain))
		}
	}
	s := sets(t)
	var alone, turns, read [3]*syms.Coder
	for i := range l {
		alone[i], turns[i] = writer(t, s[i], i < 2), writer(t, s[i], i < 2)
		for _, b := range l[i] {
			codes(t, alone[i], g[i], b, plain)
		}
		read[i] = reader(t, written(t, alone[i]), s[i], i < 2)
	}
	for n := range l[0] {
		for i := range l {
			codes(t, turns[i], g[i], l[i][n], plain)
			codes(t, read[2-i], g[2-i], l[2-i][n], plain)
		}
	}
	for i := range l {
		alike(t, "coders that take turns", turns[i], alone[i])
		alike(t, "coders that take turns, read", read[i], alone[i])
	}
}

// The set that a coder was made of stays as it is (P18.4).
func TestSetsOnlyRead(t *testing.T) {
	d := draws(74)
	for _, s := range sets(t) {
		c := writer(t, s, true)
		kept := set(t, c) // of its own
		g := gridOf(t, square())
		for range 30 {
			codes(t, c, g, d.block(t, g, d.shape(square()), plain), plain)
			cuts(t, c, g, rect(0, 0, 32, 32), d.below(10))
		}
		if sameSet(set(t, c), kept) {
			t.Error("the coder's tables have not adapted")
		}
		if !sameSet(s, kept) {
			t.Error("the set that was handed in has changed")
		}
	}
}
